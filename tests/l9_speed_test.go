package tests

import (
	"fmt"
	"math"
	"slices"
	"testing"

	"loop.example/g00935/impl"
)

// constantProfile returns a list of as many equal speeds as told.
func constantProfile(seconds, speed int) []int {
	return slices.Repeat([]int{speed}, seconds)
}

// profileOf returns a profile that keeps an acceleration, and this acceleration. Its changes are
// often as great as they may be.
func profileOf(seed int) ([]int, int) {
	next := numbers(seed)
	a := []int{1, 2, 20, 1 + next(20)}[next(4)]
	profile := []int{[]int{0, impl.MaxSpeed, next(impl.MaxSpeed + 1)}[next(3)]}
	for range []int{next(4), next(impl.MaxProfile), impl.MaxProfile - 1}[next(3)] {
		change := []int{-a, a, 0, next(2*a+1) - a}[next(4)]
		profile = append(profile, min(max(profile[len(profile)-1]+change, 0), impl.MaxSpeed))
	}
	return profile, a
}

// jumpsOf returns a profile that changes by any numbers.
func jumpsOf(seed int) []int {
	next := numbers(seed)
	most := []int{3, 30, impl.MaxSpeed}[next(3)]
	profile := []int{}
	for range 1 + []int{next(5), next(impl.MaxProfile), impl.MaxProfile - 1}[next(3)] {
		profile = append(profile, []int{next(most + 1), next(most + 1), most, 0}[next(4)])
	}
	return profile
}

// eachProfile calls f with a profile, many times.
func eachProfile(f func(profile []int)) {
	for _, profile := range [][]int{{0}, {impl.MaxSpeed}, {7}, {0, impl.MaxSpeed}, {impl.MaxSpeed, 0}, constantProfile(impl.MaxProfile, 0), constantProfile(impl.MaxProfile, impl.MaxSpeed)} {
		f(profile)
	}
	for seed := range 2000 {
		profile, _ := profileOf(seed)
		f(profile)
		f(jumpsOf(seed))
	}
}

// invalidProfiles returns lists that break one rule each.
func invalidProfiles() [][]int {
	lists := [][]int{nil, {}, constantProfile(impl.MaxProfile+1, 0), constantProfile(impl.MaxProfile+1, 50), make([]int, 100000)}
	for _, speed := range wrongSpeeds() {
		lists = append(lists, []int{speed}, []int{speed, 5}, []int{5, speed}, []int{5, speed, 5}, append(constantProfile(impl.MaxProfile-1, 5), speed))
	}
	return lists
}

// wrongSpeeds are numbers that are no speed.
func wrongSpeeds() []int {
	return append(extremes(), -2, 101, 102, 200)
}

// wrongAccelerations are numbers that are no acceleration.
func wrongAccelerations() []int {
	return append(extremes(), -20, -2, 0, 21, 22, 100)
}

// keeps reports whether the speeds of a list change by a at most.
func keeps(list []int, a int) bool {
	for i := range len(list) - 1 {
		if list[i+1]-list[i] > a || list[i]-list[i+1] > a {
			return false
		}
	}
	return true
}

// isUnder reports whether a list is nowhere greater than another one of the same length.
func isUnder(list, limits []int) bool {
	for i, speed := range list {
		if speed > limits[i] {
			return false
		}
	}
	return len(list) == len(limits)
}

func TestIsProfileAcceptsUpToTheLimits(t *testing.T) {
	for _, seconds := range []int{1, 2, 29, 30} {
		for _, speed := range []int{0, 1, 50, 99, 100} {
			if !impl.IsProfile(constantProfile(seconds, speed)) {
				t.Errorf("%d times %d is no profile", seconds, speed)
			}
			for i := range seconds {
				other := constantProfile(seconds, 50)
				if other[i] = speed; !impl.IsProfile(other) {
					t.Errorf("%v is no profile", other)
				}
				for _, wrong := range wrongSpeeds() {
					if other[i] = wrong; impl.IsProfile(other) {
						t.Errorf("%v is a profile", other)
					}
				}
			}
		}
	}
	eachProfile(func(profile []int) {
		if !impl.IsProfile(profile) {
			t.Fatalf("%v is no profile", profile)
		}
	})
	for _, list := range invalidProfiles() {
		if impl.IsProfile(list) {
			t.Errorf("%.300s is a profile", fmt.Sprint(list))
		}
	}
	if impl.MaxProfile != 30 || impl.MaxSpeed != 100 {
		t.Errorf("MaxProfile is %d, MaxSpeed %d", impl.MaxProfile, impl.MaxSpeed)
	}
}

func TestDoesKeepValues(t *testing.T) {
	cases := []struct {
		profile []int
		a       int
		want    bool
	}{
		{[]int{0, 5}, 5, true}, {[]int{0, 6}, 5, false}, {[]int{5, 0}, 5, true}, {[]int{6, 0}, 5, false}, {[]int{0, 4}, 5, true}, {[]int{7}, 1, true}, {[]int{100}, 20, true}, {[]int{7, 7}, 1, true}, {[]int{7, 8, 7, 6}, 1, true}, {[]int{7, 8, 10}, 1, false}, {[]int{7, 9, 10}, 1, false}, {[]int{7, 8, 6}, 1, false}, {[]int{9, 7, 6}, 1, false},
		{[]int{0, 20, 40, 60, 80, 100}, 20, true}, {[]int{0, 20, 40, 60, 80, 100}, 19, false}, {[]int{100, 80, 60, 40, 20, 0}, 20, true}, {[]int{100, 80, 60, 39, 20, 0}, 20, false}, {[]int{0, 21}, 20, false}, {[]int{21, 0}, 20, false}, {[]int{0, 100}, 20, false}, {[]int{100, 0}, 20, false}, {[]int{0, 100}, 1, false},
		// Only successive speeds count.
		{[]int{0, 5, 10, 5, 0}, 5, true}, {constantProfile(30, 100), 1, true},
		// A change that is too great in the last second of the longest profile.
		{append(constantProfile(29, 50), 52), 1, false}, {append(constantProfile(29, 50), 48), 1, false}, {append(constantProfile(29, 50), 51), 1, true},
	}
	for _, c := range cases {
		if k, ok := impl.DoesKeep(c.profile, c.a); !ok || k != c.want {
			t.Errorf("DoesKeep(%v, %d) = %v, %v, not %v", c.profile, c.a, k, ok, c.want)
		}
	}
}

func TestDoesKeepEveryAcceleration(t *testing.T) {
	kept, broken := 0, 0
	eachProfile(func(profile []int) {
		for a := 1; a <= 20; a++ {
			want := keeps(profile, a)
			if k, ok := impl.DoesKeep(profile, a); !ok || k != want {
				t.Fatalf("DoesKeep(%v, %d) = %v, %v, not %v", profile, a, k, ok, want)
			}
			if want {
				kept++
			} else {
				broken++
			}
		}
		for _, a := range wrongAccelerations() {
			if k, ok := impl.DoesKeep(profile, a); ok || k {
				t.Fatalf("DoesKeep(%v, %d) = %v, %v", profile, a, k, ok)
			}
		}
	})
	if kept < 10000 || broken < 10000 {
		t.Errorf("only %d are kept, %d are not", kept, broken)
	}
	for _, list := range invalidProfiles() {
		for _, a := range append(wrongAccelerations(), 1, 5, 20) {
			if k, ok := impl.DoesKeep(list, a); ok || k {
				t.Errorf("DoesKeep(%.300s, %d) = %v, %v", fmt.Sprint(list), a, k, ok)
			}
		}
	}
}

func TestDoubleWay(t *testing.T) {
	cases := []struct {
		profile []int
		want    int
	}{
		{[]int{0, 5, 10, 12}, 42}, {[]int{7}, 0}, {[]int{0}, 0}, {[]int{100}, 0}, {[]int{0, 0}, 0}, {[]int{0, 1}, 1}, {[]int{1, 0}, 1}, {[]int{1, 1}, 2}, {[]int{3, 4, 5}, 16}, {[]int{0, 100, 0}, 200}, {[]int{100, 0, 100}, 200}, {[]int{100, 80, 60, 40, 20, 0}, 500},
		{constantProfile(30, 100), 5800}, {constantProfile(29, 100), 5600}, {constantProfile(30, 0), 0},
	}
	for _, c := range cases {
		if n, ok := impl.DoubleWay(c.profile); !ok || n != c.want {
			t.Errorf("DoubleWay(%v) = %d, %v, not %d", c.profile, n, ok, c.want)
		}
	}
	eachProfile(func(profile []int) {
		// Every speed counts in the second before it and in the one behind it.
		want := -profile[0] - profile[len(profile)-1]
		for _, speed := range profile {
			want += 2 * speed
		}
		if n, ok := impl.DoubleWay(profile); !ok || n != want {
			t.Fatalf("DoubleWay(%v) = %d, %v, not %d", profile, n, ok, want)
		}
	})
	for _, list := range invalidProfiles() {
		if n, ok := impl.DoubleWay(list); ok || n != 0 {
			t.Errorf("DoubleWay(%.300s) = %d, %v", fmt.Sprint(list), n, ok)
		}
	}
}

func TestShortestToValues(t *testing.T) {
	cases := []struct {
		from, to, a int
		want        []int
	}{
		{0, 12, 5, []int{0, 5, 10, 12}}, {12, 0, 5, []int{12, 7, 2, 0}}, {0, 10, 5, []int{0, 5, 10}}, {10, 0, 5, []int{10, 5, 0}}, {7, 7, 1, []int{7}}, {0, 0, 20, []int{0}}, {100, 100, 1, []int{100}}, {3, 4, 5, []int{3, 4}}, {4, 3, 5, []int{4, 3}}, {3, 8, 5, []int{3, 8}}, {3, 9, 5, []int{3, 8, 9}}, {9, 3, 5, []int{9, 4, 3}},
		{0, 100, 20, []int{0, 20, 40, 60, 80, 100}}, {100, 0, 20, []int{100, 80, 60, 40, 20, 0}}, {100, 1, 20, []int{100, 80, 60, 40, 20, 1}}, {99, 0, 20, []int{99, 79, 59, 39, 19, 0}}, {1, 100, 20, []int{1, 21, 41, 61, 81, 100}},
		// The longest ones, and those that are one speed longer.
		{0, 30, 1, nil}, {30, 0, 1, nil}, {70, 100, 1, nil}, {0, 100, 1, nil}, {0, 59, 2, nil}, {59, 0, 2, nil}, {12, 100, 3, nil}, {100, 12, 3, nil}, {0, 100, 3, nil},
		{0, 58, 2, []int{0, 2, 4, 6, 8, 10, 12, 14, 16, 18, 20, 22, 24, 26, 28, 30, 32, 34, 36, 38, 40, 42, 44, 46, 48, 50, 52, 54, 56, 58}},
		{57, 0, 2, []int{57, 55, 53, 51, 49, 47, 45, 43, 41, 39, 37, 35, 33, 31, 29, 27, 25, 23, 21, 19, 17, 15, 13, 11, 9, 7, 5, 3, 1, 0}},
		{100, 13, 3, []int{100, 97, 94, 91, 88, 85, 82, 79, 76, 73, 70, 67, 64, 61, 58, 55, 52, 49, 46, 43, 40, 37, 34, 31, 28, 25, 22, 19, 16, 13}},
	}
	for _, c := range cases {
		if p, ok := impl.ShortestTo(c.from, c.to, c.a); ok != (c.want != nil) || !slices.Equal(p, c.want) {
			t.Errorf("ShortestTo(%d, %d, %d) = %v, %v, not %v", c.from, c.to, c.a, p, ok, c.want)
		}
	}
}

func TestShortestToBetweenAllSpeeds(t *testing.T) {
	long, longest := 0, 0
	for a := 1; a <= 20; a++ {
		for from := range 101 {
			for to := range 101 {
				// In so many seconds, and in none fewer, the acceleration is enough.
				seconds := 0
				for seconds*a < max(from-to, to-from) {
					seconds++
				}
				p, ok := impl.ShortestTo(from, to, a)
				if ok != (seconds < impl.MaxProfile) || !ok && len(p) != 0 {
					t.Fatalf("ShortestTo(%d, %d, %d) = %v, %v", from, to, a, p, ok)
				}
				if !ok {
					long++
					continue
				}
				if !impl.IsProfile(p) || len(p) != seconds+1 || p[0] != from || p[seconds] != to || !keeps(p, a) {
					t.Fatalf("ShortestTo(%d, %d, %d) = %v", from, to, a, p)
				}
				for i := 1; i < seconds; i++ {
					if change := p[i] - p[i-1]; change != a && change != -a {
						t.Fatalf("ShortestTo(%d, %d, %d) = %v", from, to, a, p)
					}
				}
				if seconds == impl.MaxProfile-1 {
					longest++
				}
			}
		}
	}
	if long < 5000 || longest < 200 {
		t.Errorf("only %d are too long, and %d just not", long, longest)
	}
}

func TestShortestToFails(t *testing.T) {
	isFailure := func(from, to, a int) {
		if p, ok := impl.ShortestTo(from, to, a); ok || len(p) != 0 {
			t.Errorf("ShortestTo(%d, %d, %d) = %v, %v", from, to, a, p, ok)
		}
	}
	for _, wrong := range wrongSpeeds() {
		for _, a := range append(wrongAccelerations(), 1, 20) {
			isFailure(wrong, wrong, a)
			for _, speed := range []int{0, 1, 99, 100} {
				isFailure(wrong, speed, a)
				isFailure(speed, wrong, a)
			}
		}
	}
	for _, a := range wrongAccelerations() {
		for _, speed := range []int{0, 1, 50, 100} {
			isFailure(speed, speed, a)
			isFailure(speed, 50, a)
			isFailure(50, speed, a)
		}
	}
}

func TestFastestUnderValues(t *testing.T) {
	cases := []struct {
		limits  []int
		from, a int
		want    []int
	}{
		{[]int{100, 100, 10, 100}, 0, 20, []int{0, 20, 10, 30}}, {[]int{100, 100, 100}, 0, 20, []int{0, 20, 40}}, {[]int{100, 100, 100}, 100, 1, []int{100, 100, 100}}, {[]int{100, 5, 100}, 5, 20, []int{5, 5, 25}}, {[]int{7}, 7, 1, []int{7}}, {[]int{7}, 3, 1, []int{3}}, {[]int{0}, 0, 20, []int{0}}, {[]int{50, 30}, 50, 20, []int{50, 30}}, {[]int{30, 50}, 30, 20, []int{30, 50}}, {[]int{30, 49}, 30, 20, []int{30, 49}}, {[]int{30, 51}, 30, 20, []int{30, 50}},
		// A limit far behind holds back long before.
		{[]int{100, 100, 100, 100, 100, 0}, 30, 10, []int{30, 40, 30, 20, 10, 0}}, {[]int{100, 100, 100, 100, 0}, 30, 10, []int{30, 30, 20, 10, 0}}, {[]int{100, 100, 100, 0}, 30, 10, []int{30, 20, 10, 0}}, {[]int{100, 100, 100, 5, 100, 0}, 0, 20, []int{0, 20, 25, 5, 20, 0}}, {[]int{0, 100, 100, 100, 0}, 0, 7, []int{0, 7, 14, 7, 0}}, {[]int{100, 100, 100, 100, 1}, 0, 7, []int{0, 7, 14, 8, 1}},
		{constantProfile(30, 0), 0, 1, constantProfile(30, 0)}, {constantProfile(30, 100), 100, 20, constantProfile(30, 100)},
		// A limit that cannot be met: the first one, the next one, and one further on.
		{[]int{100, 10}, 50, 20, nil}, {[]int{49}, 50, 20, nil}, {[]int{49, 100, 100}, 50, 20, nil}, {[]int{50, 29}, 50, 20, nil}, {[]int{100, 100, 0}, 30, 10, nil}, {[]int{100, 100, 100, 0}, 31, 10, nil}, {[]int{0}, 1, 20, nil}, {[]int{100, 100, 9, 100}, 50, 20, nil}, {append(constantProfile(29, 100), 0), 30, 1, nil}, {append(constantProfile(29, 100), 70), 100, 1, nil},
	}
	for _, c := range cases {
		if f, ok := impl.FastestUnder(c.limits, c.from, c.a); ok != (c.want != nil) || !slices.Equal(f, c.want) {
			t.Errorf("FastestUnder(%v, %d, %d) = %v, %v, not %v", c.limits, c.from, c.a, f, ok, c.want)
		}
	}
	// Just possible, over the whole of the longest profile.
	down, _ := impl.ShortestTo(29, 0, 1)
	if f, ok := impl.FastestUnder(append(constantProfile(29, 100), 0), 29, 1); !ok || !slices.Equal(f, down) {
		t.Errorf("FastestUnder down to 0 = %v, %v", f, ok)
	}
	up, _ := impl.ShortestTo(71, 100, 1)
	if f, ok := impl.FastestUnder(constantProfile(30, 100), 71, 1); !ok || !slices.Equal(f, up) {
		t.Errorf("FastestUnder up to 100 = %v, %v", f, ok)
	}
}

// fastestOf finds out by trying all profiles that begin with a list how fast one under the limits
// can be in each second; it returns nil if there is none.
func fastestOf(limits []int, begin []int, a int) []int {
	if !isUnder(begin, limits[:len(begin)]) || !keeps(begin, a) {
		return nil
	}
	if len(begin) == len(limits) {
		return slices.Clone(begin)
	}
	var fastest []int
	for speed := range slices.Max(limits) + 1 {
		other := fastestOf(limits, append(slices.Clone(begin), speed), a)
		if fastest == nil {
			fastest = other
		}
		for i, speed := range other {
			fastest[i] = max(fastest[i], speed)
		}
	}
	return fastest
}

func TestFastestUnderOfAllShortLimits(t *testing.T) {
	found, none, braked := 0, 0, 0
	for length := 1; length <= 4; length++ {
		for n := range 1 << (2 * length) {
			limits := []int{}
			for i := range length {
				limits = append(limits, []int{0, 1, 3, 5}[n>>(2*i)&3])
			}
			for from := range 7 {
				for a := 1; a <= 3; a++ {
					want := fastestOf(limits, []int{from}, a)
					f, ok := impl.FastestUnder(limits, from, a)
					if ok != (want != nil) || !slices.Equal(f, want) {
						t.Fatalf("FastestUnder(%v, %d, %d) = %v, %v, not %v", limits, from, a, f, ok, want)
					}
					switch {
					case !ok:
						none++
					case !slices.IsSorted(f):
						braked++
					default:
						found++
					}
				}
			}
		}
	}
	if found < 500 || none < 2000 || braked < 500 {
		t.Errorf("too few: %d without braking, %d with it, %d without a profile", found, braked, none)
	}
}

// reachedFrom tells for each second which speeds under the limits can be reached from the first
// speed, going on through the seconds in their order.
func reachedFrom(limits []int, first func(speed int) bool, a int) [][]bool {
	reached := [][]bool{}
	for i, limit := range limits {
		now := make([]bool, impl.MaxSpeed+1)
		for speed := range limit + 1 {
			now[speed] = i == 0 && first(speed)
			for before := max(speed-a, 0); i > 0 && before <= min(speed+a, impl.MaxSpeed); before++ {
				now[speed] = now[speed] || reached[i-1][before]
			}
		}
		reached = append(reached, now)
	}
	return reached
}

// possibleUnder returns the greatest speed of each second that can be reached from the first one,
// and from which the last second can be reached; nil if there is none in some second.
func possibleUnder(limits []int, from, a int) []int {
	backwards := slices.Clone(limits)
	slices.Reverse(backwards)
	before := reachedFrom(limits, func(speed int) bool { return speed == from }, a)
	behind := reachedFrom(backwards, func(int) bool { return true }, a)
	slices.Reverse(behind)
	fastest := []int{}
	for i := range limits {
		speed := impl.MaxSpeed
		for speed >= 0 && !(before[i][speed] && behind[i][speed]) {
			speed--
		}
		if speed < 0 {
			return nil
		}
		fastest = append(fastest, speed)
	}
	return fastest
}

func TestFastestUnderOfManyLimits(t *testing.T) {
	found, none := 0, 0
	for seed := range 4000 {
		next := numbers(seed)
		limits, a := jumpsOf(seed), 1+next(20)
		if seed%2 == 0 {
			limits, a = profileOf(seed)
			for range next(3) {
				limits[next(len(limits))] = next(101)
			}
		}
		for _, from := range []int{0, 1, limits[0] / 2, limits[0] - 1, limits[0], limits[0] + 1} {
			want := possibleUnder(limits, from, a)
			f, ok := impl.FastestUnder(limits, from, a)
			if ok != (want != nil) || !slices.Equal(f, want) {
				t.Fatalf("FastestUnder(%v, %d, %d) = %v, %v, not %v", limits, from, a, f, ok, want)
			}
			if ok {
				found++
			} else {
				none++
			}
		}
	}
	if found < 5000 || none < 5000 {
		t.Errorf("only %d are found, and there is none for %d", found, none)
	}
}

// TestNoProfileUnderTheLimitsIsFaster is promise 9: it makes limits above a profile, and expects
// that this profile is in no second faster than the fastest one.
func TestNoProfileUnderTheLimitsIsFaster(t *testing.T) {
	same, faster := 0, 0
	for seed := range 10000 {
		profile, a := profileOf(seed)
		next := numbers(seed + 1)
		limits := []int{}
		for _, speed := range profile {
			limits = append(limits, min(speed+[]int{0, next(3), next(101)}[next(3)], impl.MaxSpeed))
		}
		fastest, ok := impl.FastestUnder(limits, profile[0], a)
		if !ok || fastest[0] != profile[0] || !keeps(fastest, a) || !isUnder(fastest, limits) || !isUnder(profile, fastest) {
			t.Fatalf("FastestUnder(%v, %d, %d) = %v, %v, and there is %v", limits, profile[0], a, fastest, ok, profile)
		}
		if slices.Equal(fastest, profile) {
			same++
		} else {
			faster++
		}
		// Limits that are the fastest profile itself change nothing.
		if again, ok := impl.FastestUnder(fastest, profile[0], a); !ok || !slices.Equal(again, fastest) {
			t.Fatalf("FastestUnder(%v, %d, %d) = %v, %v", fastest, profile[0], a, again, ok)
		}
		before, _ := impl.DoubleWay(profile)
		if way, _ := impl.DoubleWay(fastest); way < before {
			t.Fatalf("the way of %v is %d, that of %v is %d", fastest, way, profile, before)
		}
	}
	if same < 500 || faster < 5000 {
		t.Errorf("only %d are the fastest ones, and %d are not", same, faster)
	}
}

func TestFastestUnderFails(t *testing.T) {
	isFailure := func(limits []int, from, a int) {
		if f, ok := impl.FastestUnder(limits, from, a); ok || len(f) != 0 {
			t.Errorf("FastestUnder(%.300s, %d, %d) = %v, %v", fmt.Sprint(limits), from, a, f, ok)
		}
	}
	for _, limits := range [][]int{{100}, {100, 100}, constantProfile(30, 100), {0}, {0, 0}} {
		for _, a := range []int{1, 20} {
			for _, from := range wrongSpeeds() {
				isFailure(limits, from, a)
			}
		}
		for _, a := range wrongAccelerations() {
			isFailure(limits, 0, a)
			isFailure(limits, 100, a)
		}
	}
	for _, limits := range invalidProfiles() {
		for _, a := range append(wrongAccelerations(), 1, 20) {
			for _, from := range append(wrongSpeeds(), 0, 5) {
				isFailure(limits, from, a)
			}
		}
	}
}

func TestJoinProfilesValues(t *testing.T) {
	cases := []struct{ a, b, want []int }{
		{[]int{0, 5}, []int{5, 7}, []int{0, 5, 7}}, {[]int{5}, []int{5}, []int{5}}, {[]int{5}, []int{5, 7}, []int{5, 7}}, {[]int{0, 5}, []int{5}, []int{0, 5}}, {[]int{0, 5}, []int{5, 5}, []int{0, 5, 5}}, {[]int{100, 0}, []int{0, 100}, []int{100, 0, 100}}, {[]int{0, 0}, []int{0, 0}, []int{0, 0, 0}},
		{constantProfile(30, 9), []int{9}, constantProfile(30, 9)}, {[]int{9}, constantProfile(30, 9), constantProfile(30, 9)}, {constantProfile(15, 9), constantProfile(16, 9), constantProfile(30, 9)}, {constantProfile(29, 9), []int{9, 9}, constantProfile(30, 9)},
		// Too long by one speed, and by many.
		{constantProfile(30, 9), []int{9, 9}, nil}, {[]int{9, 9}, constantProfile(30, 9), nil}, {constantProfile(16, 9), constantProfile(16, 9), nil}, {constantProfile(30, 9), constantProfile(30, 9), nil},
		// Another speed in between.
		{[]int{0, 5}, []int{6, 7}, nil}, {[]int{0, 5}, []int{4, 5}, nil}, {[]int{0, 5}, []int{0, 5}, nil}, {[]int{5, 0}, []int{5, 0}, nil}, {[]int{5}, []int{6}, nil}, {[]int{0}, []int{100}, nil},
	}
	for _, c := range cases {
		if j, ok := impl.JoinProfiles(c.a, c.b); ok != (c.want != nil) || !slices.Equal(j, c.want) {
			t.Errorf("JoinProfiles(%v, %v) = %v, %v, not %v", c.a, c.b, j, ok, c.want)
		}
	}
	for _, list := range invalidProfiles() {
		for _, other := range append(invalidProfiles(), []int{0}, []int{5}, []int{5, 5}) {
			if j, ok := impl.JoinProfiles(list, other); ok || len(j) != 0 {
				t.Errorf("JoinProfiles(%.300s, %.300s) = %v, %v", fmt.Sprint(list), fmt.Sprint(other), j, ok)
			}
			if j, ok := impl.JoinProfiles(other, list); ok || len(j) != 0 {
				t.Errorf("JoinProfiles(%.300s, %.300s) = %v, %v", fmt.Sprint(other), fmt.Sprint(list), j, ok)
			}
		}
	}
	// Where only the joined speed is invalid, both lists are.
	for _, speed := range wrongSpeeds() {
		if j, ok := impl.JoinProfiles([]int{5, speed}, []int{speed, 5}); ok || len(j) != 0 {
			t.Errorf("JoinProfiles at %d = %v, %v", speed, j, ok)
		}
	}
}

// TestPartsJoinToTheWhole cuts profiles at each second, and expects that the parts join to the whole
// again, with a way that is the sum of their ways.
func TestPartsJoinToTheWhole(t *testing.T) {
	eachProfile(func(profile []int) {
		whole, _ := impl.DoubleWay(profile)
		for i := range profile {
			first, second := profile[:i+1], profile[i:]
			joined, ok := impl.JoinProfiles(first, second)
			if !ok || !slices.Equal(joined, profile) {
				t.Fatalf("JoinProfiles(%v, %v) = %v, %v", first, second, joined, ok)
			}
			one, _ := impl.DoubleWay(first)
			two, _ := impl.DoubleWay(second)
			if one+two != whole {
				t.Fatalf("the ways of %v and %v are %d and %d, not %d", first, second, one, two, whole)
			}
			if i > 0 && profile[i-1] != profile[i] {
				if joined, ok := impl.JoinProfiles(profile[:i], second); ok || len(joined) != 0 {
					t.Fatalf("JoinProfiles(%v, %v) = %v, %v", profile[:i], second, joined, ok)
				}
			}
		}
	})
}

func TestStopWay(t *testing.T) {
	cases := []struct{ speed, a, want int }{
		{12, 5, 30}, {0, 1, 0}, {0, 20, 0}, {1, 1, 1}, {1, 20, 1}, {5, 5, 5}, {6, 5, 8}, {20, 20, 20}, {21, 20, 23}, {100, 20, 500}, {99, 20, 491}, {29, 1, 841}, {58, 2, 1682}, {87, 3, 2523}, {100, 4, 2500}, {100, 5, 2000},
		// Too long.
		{30, 1, -1}, {31, 1, -1}, {100, 1, -1}, {59, 2, -1}, {88, 3, -1}, {100, 3, -1},
	}
	for _, c := range cases {
		if n, ok := impl.StopWay(c.speed, c.a); ok != (c.want >= 0) || n != max(c.want, 0) {
			t.Errorf("StopWay(%d, %d) = %d, %v, not %d", c.speed, c.a, n, ok, c.want)
		}
	}
	for a := 1; a <= 20; a++ {
		for speed := range 101 {
			// Brakes second by second.
			want, seconds := 0, 0
			for rest := speed; rest > 0; seconds++ {
				slower := max(rest-a, 0)
				want, rest = want+rest+slower, slower
			}
			if seconds >= impl.MaxProfile {
				want = 0
			}
			if n, ok := impl.StopWay(speed, a); ok != (seconds < impl.MaxProfile) || n != want {
				t.Fatalf("StopWay(%d, %d) = %d, %v, not %d", speed, a, n, ok, want)
			}
		}
	}
	for _, speed := range append(wrongSpeeds(), 0, 1, 20, 100) {
		for _, a := range wrongAccelerations() {
			if n, ok := impl.StopWay(speed, a); ok || n != 0 {
				t.Errorf("StopWay(%d, %d) = %d, %v", speed, a, n, ok)
			}
		}
	}
	for _, speed := range wrongSpeeds() {
		for a := 1; a <= 20; a++ {
			if n, ok := impl.StopWay(speed, a); ok || n != 0 {
				t.Errorf("StopWay(%d, %d) = %d, %v", speed, a, n, ok)
			}
		}
	}
}

func TestSpeedForValues(t *testing.T) {
	cases := []struct{ way, a, want int }{
		{30, 5, 12}, {29, 5, 11}, {31, 5, 12}, {0, 1, 0}, {0, 20, 0}, {1, 20, 1}, {1, 1, 1}, {2, 1, 1}, {3, 1, 1}, {4, 1, 2}, {500, 20, 100}, {499, 20, 99}, {491, 20, 99}, {490, 20, 98}, {100000, 20, 100}, {100000, 4, 100}, {2500, 4, 100}, {2499, 4, 99},
		// Faster ones cannot stop in the longest profile.
		{841, 1, 29}, {840, 1, 28}, {100000, 1, 29}, {1682, 2, 58}, {1681, 2, 57}, {100000, 2, 58}, {99999, 2, 58}, {2523, 3, 87}, {100000, 3, 87},
	}
	for _, c := range cases {
		if n, ok := impl.SpeedFor(c.way, c.a); !ok || n != c.want {
			t.Errorf("SpeedFor(%d, %d) = %d, %v, not %d", c.way, c.a, n, ok, c.want)
		}
	}
	for _, a := range append(wrongAccelerations(), 1, 5, 20) {
		for _, way := range append(extremes(), -2, 100001, 100002, 1000000) {
			if n, ok := impl.SpeedFor(way, a); ok || n != 0 {
				t.Errorf("SpeedFor(%d, %d) = %d, %v", way, a, n, ok)
			}
		}
	}
	for _, a := range wrongAccelerations() {
		for _, way := range []int{0, 1, 30, 100000} {
			if n, ok := impl.SpeedFor(way, a); ok || n != 0 {
				t.Errorf("SpeedFor(%d, %d) = %d, %v", way, a, n, ok)
			}
		}
	}
}

// TestSpeedForEveryStopWay tries the way of each speed, and ways a little shorter and longer.
func TestSpeedForEveryStopWay(t *testing.T) {
	for a := 1; a <= 20; a++ {
		for speed := range 101 {
			stop, ok := impl.StopWay(speed, a)
			for _, way := range []int{stop - 1, stop, stop + 1, stop + 7} {
				if !ok || way < 0 {
					continue
				}
				want := 0
				for other := range 101 {
					if n, ok := impl.StopWay(other, a); ok && n <= way {
						want = other
					}
				}
				if n, ok := impl.SpeedFor(way, a); !ok || n != want || way == stop && n != speed {
					t.Fatalf("SpeedFor(%d, %d) = %d, %v, not %d", way, a, n, ok, want)
				}
			}
		}
	}
}

func TestSmoothProfile(t *testing.T) {
	cases := []struct{ profile, want []int }{
		{[]int{0, 9, 0}, []int{0, 3, 0}}, {[]int{7}, []int{7}}, {[]int{7, 50}, []int{7, 50}}, {[]int{100, 0}, []int{100, 0}}, {[]int{0, 0, 1}, []int{0, 0, 1}}, {[]int{0, 0, 2}, []int{0, 0, 2}}, {[]int{1, 1, 1}, []int{1, 1, 1}}, {[]int{0, 0, 3}, []int{0, 1, 3}}, {[]int{1, 2, 2}, []int{1, 1, 2}}, {[]int{2, 2, 2}, []int{2, 2, 2}}, {[]int{100, 100, 100}, []int{100, 100, 100}}, {[]int{100, 99, 100}, []int{100, 99, 100}},
		// The speeds of the profile count, not those that are replaced already.
		{[]int{0, 9, 0, 9, 0}, []int{0, 3, 6, 3, 0}}, {[]int{90, 0, 0, 0, 90}, []int{90, 30, 0, 30, 90}}, {[]int{0, 30, 60, 90}, []int{0, 30, 60, 90}}, {[]int{0, 0, 90, 0, 0}, []int{0, 30, 30, 30, 0}},
		{constantProfile(30, 100), constantProfile(30, 100)},
	}
	for _, c := range cases {
		if s, ok := impl.SmoothProfile(c.profile); !ok || !slices.Equal(s, c.want) {
			t.Errorf("SmoothProfile(%v) = %v, %v, not %v", c.profile, s, ok, c.want)
		}
	}
	eachProfile(func(profile []int) {
		s, ok := impl.SmoothProfile(profile)
		last := len(profile) - 1
		if !ok || !impl.IsProfile(s) || len(s) != len(profile) || s[0] != profile[0] || s[last] != profile[last] {
			t.Fatalf("SmoothProfile(%v) = %v, %v", profile, s, ok)
		}
		for i := 1; i < last; i++ {
			// The sum of the three lies between that of three such means and the next one.
			rest := profile[i-1] + profile[i] + profile[i+1] - 3*s[i]
			if rest < 0 || rest > 2 {
				t.Fatalf("SmoothProfile(%v) = %v", profile, s)
			}
		}
	})
	// A mean of three never changes by more than the speeds themselves.
	for seed := range 2000 {
		profile, a := profileOf(seed)
		if s, ok := impl.SmoothProfile(profile); !ok || !keeps(s, a) {
			t.Fatalf("SmoothProfile(%v) = %v, %v, which does not keep %d", profile, s, ok, a)
		}
	}
	for _, list := range invalidProfiles() {
		if s, ok := impl.SmoothProfile(list); ok || len(s) != 0 {
			t.Errorf("SmoothProfile(%.300s) = %v, %v", fmt.Sprint(list), s, ok)
		}
	}
}

// speedResults returns the results of all functions of the chapter as text. It fails the test if one
// of them succeeds for an invalid profile, or returns a result beside false that is not zero.
func speedResults(t *testing.T, profile []int, other []int, n int, a int) string {
	t.Helper()
	valid := impl.IsProfile(profile)
	keep, keepOk := impl.DoesKeep(profile, a)
	way, wayOk := impl.DoubleWay(profile)
	fastest, fastestOk := impl.FastestUnder(profile, n, a)
	joined, joinedOk := impl.JoinProfiles(profile, other)
	reversed, reversedOk := impl.JoinProfiles(other, profile)
	smooth, smoothOk := impl.SmoothProfile(profile)
	shortest, shortestOk := impl.ShortestTo(n, len(profile), a)
	stop, stopOk := impl.StopWay(n, a)
	speed, speedOk := impl.SpeedFor(n, a)
	if wayOk != valid || smoothOk != valid || keepOk != (valid && 1 <= a && a <= 20) || !valid && (fastestOk || joinedOk || reversedOk) {
		t.Fatalf("%.300s, %d, %d: valid is %v, and a function returns something else", fmt.Sprint(profile), n, a, valid)
	}
	if !keepOk && keep || !wayOk && way != 0 || !stopOk && stop != 0 || !speedOk && speed != 0 {
		t.Fatalf("%.300s, %d, %d: a result beside false is not zero", fmt.Sprint(profile), n, a)
	}
	lists := [][]int{fastest, joined, reversed, smooth, shortest}
	for i, ok := range []bool{fastestOk, joinedOk, reversedOk, smoothOk, shortestOk} {
		if ok != impl.IsProfile(lists[i]) || !ok && len(lists[i]) != 0 {
			t.Fatalf("%.300s, %d, %d: the profile %d is not as it must be: %v, %v", fmt.Sprint(profile), n, a, i, lists[i], ok)
		}
	}
	return fmt.Sprint(valid, keep, keepOk, way, wayOk, lists, stop, stopOk, speed, speedOk)
}

// TestSpeedsReturnForAllArguments gives valid and invalid arguments to every function of the
// chapter, with profiles as parts of longer lists, and expects that nothing in these lists changes,
// that what stands behind them does not count, and that a second call returns the same.
func TestSpeedsReturnForAllArguments(t *testing.T) {
	tried := append(extremes(), 0, 1, 2, 5, 19, 20, 21, 29, 30, 31, 99, 100, 101, 100000, 100001)
	check := func(profile, other []int, n, a int) {
		memory := append(slices.Clone(profile), 0, 50, math.MinInt)
		second := append(slices.Clone(other), 5, -1, math.MaxInt)
		memoryBefore, secondBefore := slices.Clone(memory), slices.Clone(second)
		one := speedResults(t, slices.Clone(profile), slices.Clone(other), n, a)
		two := speedResults(t, memory[:len(profile)], second[:len(other)], n, a)
		if one != two {
			t.Fatalf("%.300s and then %.300s", one, two)
		}
		if !slices.Equal(memory, memoryBefore) || !slices.Equal(second, secondBefore) {
			t.Fatalf("the argument %.300s or %.300s is changed", fmt.Sprint(profile), fmt.Sprint(other))
		}
	}
	for seed := range 500 {
		profile, a := profileOf(seed)
		other := jumpsOf(seed)
		for i, n := range tried {
			check(profile, other, n, a)
			check(other, profile, profile[0], n)
			check(profile, append(profile[len(profile)-1:len(profile):len(profile)], other...), n, tried[(i+seed)%len(tried)])
		}
	}
	for _, list := range append(invalidProfiles(), []int{0}, []int{100}, []int{5, 9, 5}) {
		for _, n := range tried {
			check(list, []int{5, 7}, n, 5)
			check(list, list, 5, n)
			check([]int{5, 7}, list, n, n)
		}
	}
	for _, n := range tried {
		for _, m := range tried {
			for _, a := range tried {
				if p, ok := impl.ShortestTo(n, m, a); ok != impl.IsProfile(p) || !ok && len(p) != 0 {
					t.Errorf("ShortestTo(%d, %d, %d) = %v, %v", n, m, a, p, ok)
				}
			}
		}
	}
}

// TestSpeedsReturnNewMemory changes the results, and behind their length, and expects that neither
// the argument nor a later result changes with them.
func TestSpeedsReturnNewMemory(t *testing.T) {
	memory := []int{5, 7, 9, 7, 5, 7, 9, 11}
	before := slices.Clone(memory)
	fastest := func(profile []int) ([]int, bool) { return impl.FastestUnder(profile, 5, 3) }
	shortest := func(profile []int) ([]int, bool) { return impl.ShortestTo(5, profile[len(profile)-1], 1) }
	joinOne := func(profile []int) ([]int, bool) {
		return impl.JoinProfiles(profile, profile[len(profile)-1:])
	}
	joinFirst := func(profile []int) ([]int, bool) { return impl.JoinProfiles(profile[:1], profile) }
	joinNext := func(profile []int) ([]int, bool) {
		return impl.JoinProfiles(profile, []int{profile[len(profile)-1], 80, 90})
	}
	for count := 1; count <= len(memory); count++ {
		profile := memory[:count]
		for i, f := range []func([]int) ([]int, bool){fastest, shortest, joinOne, joinFirst, joinNext, impl.SmoothProfile} {
			one, ok := f(profile)
			two, _ := f(profile)
			kept := slices.Clone(two)
			if !ok || !slices.Equal(one, two) {
				t.Fatalf("%v: %v, %v and then %v", profile, one, ok, two)
			}
			clear(append(one, 77, 78))
			clear(one[:cap(one)])
			if three, _ := f(profile); !slices.Equal(memory, before) || !slices.Equal(two, kept) || !slices.Equal(three, kept) {
				t.Errorf("a result of the function %d of %v shares memory", i, profile)
			}
		}
	}
}
