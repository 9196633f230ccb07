package tests

import (
	"fmt"
	"math"
	"math/big"
	"slices"
	"testing"

	"loop.example/g00935/impl"
)

func loadCase(weight, counter, rub int) impl.LoadCase {
	return impl.LoadCase{Weight: weight, Counter: counter, Rub: rub}
}

// exampleCase gives the line of the example the tensions 20000, 27600 and 35200 of the rope that
// goes up, and 20000, 27400 and 34800 of the one that comes down.
func exampleCase() impl.LoadCase {
	return loadCase(50, 20000, 100)
}

// levelLine has as many Supports as its count, all of the same Height.
func levelLine(count int) []impl.Support {
	line := []impl.Support{}
	for i := range count {
		line = append(line, station(7*i, 500))
	}
	return line
}

// lineOf has Supports of some Heights, 10 meters from each other.
func lineOf(heights ...int) []impl.Support {
	line := []impl.Support{}
	for i, h := range heights {
		line = append(line, impl.Support{At: 10 * i, Height: h, Station: i == 0 || i == len(heights)-1})
	}
	return line
}

// invalidLoadCases returns LoadCases that break one rule each.
func invalidLoadCases() []impl.LoadCase {
	cases := []impl.LoadCase{{}}
	for i, wrong := range [][]int{{0, 1001}, {0, impl.MaxTension + 1}, {1001}} {
		for _, n := range append(wrong, extremes()...) {
			x := exampleCase()
			*[]*int{&x.Weight, &x.Counter, &x.Rub}[i] = n
			cases = append(cases, x)
		}
	}
	return cases
}

// tensionsOf returns the tensions as they follow from the Heights of the first Support and of each
// one, if a Support takes rub, and whether none is less than 0.
func tensionsOf(line []impl.Support, x impl.LoadCase, rub int) ([]int, bool) {
	tensions := []int{}
	for i, s := range line {
		tensions = append(tensions, x.Counter+x.Weight*(s.Height-line[0].Height)+i*rub)
	}
	return tensions, slices.Min(tensions) >= 0
}

// eachTension calls f with valid lines and LoadCases. Many of these are such that the least tension
// of the rope that goes up, or of the one that comes down, is 0 or beside 0.
func eachTension(f func(line []impl.Support, x impl.LoadCase)) {
	lines := [][]impl.Support{exampleLine(), longestLine(), levelLine(2), levelLine(8), lineOf(1000, 0), lineOf(2000, 0), lineOf(0, 2000, 0)}
	for i, line := range validLines() {
		if i%37 == 0 || len(line) > 4 {
			lines = append(lines, line)
		}
	}
	for _, line := range lines {
		for _, weight := range []int{1, 7, 500, 1000} {
			for _, rub := range []int{0, 1, 100, 1000} {
				counters := []int{1, 2, 20000, impl.MaxTension - 1, impl.MaxTension}
				for _, r := range []int{rub, -rub} {
					changes, _ := tensionsOf(line, impl.LoadCase{Weight: weight}, r)
					least := -slices.Min(changes)
					counters = append(counters, least-1, least, least+1)
				}
				slices.Sort(counters)
				for _, counter := range slices.Compact(counters) {
					if x := loadCase(weight, counter, rub); 1 <= counter && counter <= impl.MaxTension {
						f(line, x)
					}
				}
			}
		}
	}
}

func TestIsLoadCaseAcceptsUpToTheLimits(t *testing.T) {
	for i, limits := range [][]int{{1, 2, 999, 1000}, {1, 2, 999999, 1000000}, {0, 1, 999, 1000}} {
		for _, n := range limits {
			x := exampleCase()
			*[]*int{&x.Weight, &x.Counter, &x.Rub}[i] = n
			if !impl.IsLoadCase(x) {
				t.Errorf("IsLoadCase(%+v) is false", x)
			}
		}
	}
	for _, x := range invalidLoadCases() {
		if impl.IsLoadCase(x) {
			t.Errorf("IsLoadCase(%+v) is true", x)
		}
	}
	if impl.MaxTension != 1000000 {
		t.Errorf("MaxTension is %d", impl.MaxTension)
	}
}

func TestTensionsValues(t *testing.T) {
	cases := []struct {
		line     []impl.Support
		x        impl.LoadCase
		up, down []int // nil if a tension would be less than 0
	}{
		{exampleLine(), exampleCase(), []int{20000, 27600, 35200}, []int{20000, 27400, 34800}},
		{exampleLine(), loadCase(50, 1, 0), []int{1, 7501, 15001}, []int{1, 7501, 15001}},
		{levelLine(4), loadCase(9, 30, 10), []int{30, 40, 50, 60}, []int{30, 20, 10, 0}},
		{levelLine(4), loadCase(9, 29, 10), []int{29, 39, 49, 59}, nil},
		{levelLine(5), loadCase(9, 30, 10), []int{30, 40, 50, 60, 70}, nil},
		{levelLine(2), loadCase(1, 1, 1), []int{1, 2}, []int{1, 0}},
		{levelLine(2), loadCase(1, 1, 2), []int{1, 3}, nil},
		{lineOf(30, 20, 10), loadCase(5, 100, 0), []int{100, 50, 0}, []int{100, 50, 0}},
		{lineOf(30, 20, 10), loadCase(5, 99, 0), nil, nil},
		{lineOf(30, 20, 10), loadCase(5, 100, 1), []int{100, 51, 2}, nil},
		{lineOf(30, 20, 10), loadCase(5, 98, 1), []int{98, 49, 0}, nil},
		{lineOf(30, 20, 10), loadCase(5, 97, 1), nil, nil},
		{lineOf(30, 20, 10), loadCase(5, 102, 1), []int{102, 53, 4}, []int{102, 51, 0}},
		// Less than 0 only in the middle: the last tension alone does not tell.
		{lineOf(30, 10, 30), loadCase(5, 100, 0), []int{100, 0, 100}, []int{100, 0, 100}},
		{lineOf(30, 10, 30), loadCase(5, 99, 0), nil, nil},
		{lineOf(30, 10, 30), loadCase(5, 100, 2), []int{100, 2, 104}, nil},
		{lineOf(30, 10, 50), loadCase(5, 98, 2), []int{98, 0, 202}, nil},
		// Only Counter is limited by MaxTension.
		{lineOf(0, 2000), loadCase(1000, 1000000, 1000), []int{1000000, 3001000}, []int{1000000, 2999000}},
		{lineOf(2000, 0, 2000), loadCase(1000, 1000000, 1000), nil, nil},
		{lineOf(1000, 0), loadCase(1000, 1000000, 0), []int{1000000, 0}, []int{1000000, 0}},
	}
	for _, c := range cases {
		if up, ok := impl.UpTensions(c.line, c.x); ok != (c.up != nil) || !slices.Equal(up, c.up) {
			t.Errorf("UpTensions(%v, %+v) = %v, %v, not %v", c.line, c.x, up, ok, c.up)
		}
		if down, ok := impl.DownTensions(c.line, c.x); ok != (c.down != nil) || !slices.Equal(down, c.down) {
			t.Errorf("DownTensions(%v, %+v) = %v, %v, not %v", c.line, c.x, down, ok, c.down)
		}
	}
}

// TestTensionsOfManyLines expects each tension, and that one of exactly 0 is allowed for both ropes.
func TestTensionsOfManyLines(t *testing.T) {
	zeroUp, zeroDown, onlyUp, none := 0, 0, 0, 0
	eachTension(func(line []impl.Support, x impl.LoadCase) {
		wantUp, upHolds := tensionsOf(line, x, x.Rub)
		wantDown, downHolds := tensionsOf(line, x, -x.Rub)
		up, upOk := impl.UpTensions(line, x)
		down, downOk := impl.DownTensions(line, x)
		if upOk != upHolds || upOk && !slices.Equal(up, wantUp) || !upOk && len(up) != 0 {
			t.Fatalf("UpTensions(%v, %+v) = %v, %v, not %v, %v", line, x, up, upOk, wantUp, upHolds)
		}
		if downOk != downHolds || downOk && !slices.Equal(down, wantDown) || !downOk && len(down) != 0 {
			t.Fatalf("DownTensions(%v, %+v) = %v, %v, not %v, %v", line, x, down, downOk, wantDown, downHolds)
		}
		switch {
		case !upOk:
			none++
		case !downOk:
			onlyUp++
		case slices.Min(down) == 0:
			zeroDown++
		}
		if upOk && slices.Min(up) == 0 {
			zeroUp++
		}
	})
	if zeroUp < 500 || zeroDown < 500 || onlyUp < 500 || none < 500 {
		t.Errorf("too few: %d with a tension of 0 up and %d down, %d only up, %d not at all", zeroUp, zeroDown, onlyUp, none)
	}
}

func TestDriveForceValues(t *testing.T) {
	cases := []struct {
		line []impl.Support
		x    impl.LoadCase
		want int // -1 if there is none
	}{
		{exampleLine(), exampleCase(), 400}, {exampleLine(), loadCase(50, 20000, 0), 0}, {levelLine(2), loadCase(1, 1, 1), 2}, {levelLine(2), loadCase(1, 1, 2), -1},
		{levelLine(8), loadCase(1000, 7000, 1000), 14000}, {levelLine(8), loadCase(1000, 6999, 1000), -1}, {levelLine(8), loadCase(1, 1, 0), 0},
		// The rope that goes up holds, the one that comes down does not, at the last Support or before.
		{lineOf(30, 20, 10), loadCase(5, 100, 1), -1}, {lineOf(30, 10, 30), loadCase(5, 100, 2), -1},
		{lineOf(30, 10, 30), loadCase(5, 102, 2), 8}, {lineOf(30, 20, 10), loadCase(5, 99, 0), -1},
		{lineOf(30, 20, 10), loadCase(5, 100, 0), 0}, {lineOf(30, 20, 10), loadCase(5, 102, 1), 4}, {lineOf(0, 2000), loadCase(1000, 1000000, 1000), 2000},
	}
	for _, c := range cases {
		n, ok := impl.DriveForce(c.line, c.x)
		if ok != (c.want >= 0) || n != max(c.want, 0) {
			t.Errorf("DriveForce(%v, %+v) = %d, %v, not %d", c.line, c.x, n, ok, c.want)
		}
	}
}

func TestWithoutFrictionNoDriveForceIsNeeded(t *testing.T) {
	without, with, fails := 0, 0, 0
	eachTension(func(line []impl.Support, x impl.LoadCase) {
		n, ok := impl.DriveForce(line, x)
		_, upHolds := tensionsOf(line, x, x.Rub)
		_, downHolds := tensionsOf(line, x, -x.Rub)
		if ok != (upHolds && downHolds) || !ok && n != 0 {
			t.Fatalf("DriveForce(%v, %+v) = %d, %v", line, x, n, ok)
		}
		if !ok {
			fails++
			return
		}
		// Each Support behind the first one takes Rub from both ropes.
		if n != 2*x.Rub*(len(line)-1) {
			t.Fatalf("DriveForce(%v, %+v) = %d", line, x, n)
		}
		up, _ := impl.UpTensions(line, x)
		down, _ := impl.DownTensions(line, x)
		if (x.Rub == 0) != (n == 0) || (x.Rub == 0) != slices.Equal(up, down) {
			t.Fatalf("%v, %+v: the drive force is %d, up %v, down %v", line, x, n, up, down)
		}
		if x.Rub == 0 {
			without++
		} else {
			with++
		}
	})
	if without < 500 || with < 500 || fails < 500 {
		t.Errorf("only %d cases without friction, %d with it, %d in which a tension would be less than 0", without, with, fails)
	}
}

func TestGreatestTensionValues(t *testing.T) {
	cases := []struct {
		line        []impl.Support
		x           impl.LoadCase
		index, want int
		ok          bool
	}{
		{exampleLine(), exampleCase(), 2, 35200, true}, {levelLine(8), loadCase(1, 5, 0), 0, 5, true}, {levelLine(8), loadCase(1, 5, 1), 7, 12, true},
		{lineOf(30, 20, 10), loadCase(5, 100, 0), 0, 100, true}, {lineOf(30, 20, 10), loadCase(5, 98, 1), 0, 98, true}, {lineOf(30, 20, 10), loadCase(5, 97, 1), 0, 0, false},
		{lineOf(10, 20, 10, 20), loadCase(5, 1, 0), 1, 51, true}, {lineOf(10, 20, 10, 20), loadCase(5, 1, 1), 3, 54, true}, {lineOf(10, 20, 20, 10), loadCase(5, 1, 0), 1, 51, true},
		{lineOf(20, 10, 20), loadCase(5, 50, 0), 0, 50, true}, {lineOf(20, 19, 18), loadCase(5, 10, 5), 0, 10, true}, {lineOf(20, 19, 18), loadCase(5, 10, 6), 2, 12, true},
		// The rope that comes down would have a tension of less than 0, but this one does not.
		{levelLine(3), loadCase(1, 1, 1000), 2, 2001, true}, {lineOf(30, 10, 30), loadCase(5, 98, 2), 2, 102, true},
		{lineOf(30, 10, 2000), loadCase(5, 99, 0), 0, 0, false}, {lineOf(0, 2000, 0), loadCase(1000, 1000000, 1000), 1, 3001000, true},
	}
	for _, c := range cases {
		if i, n, ok := impl.GreatestTension(c.line, c.x); ok != c.ok || i != c.index || n != c.want {
			t.Errorf("GreatestTension(%v, %+v) = %d, %d, %v, not %d, %d", c.line, c.x, i, n, ok, c.index, c.want)
		}
	}
}

// TestTheGreatestTensionIsTheFirstOfTheGreatest, in lists in which many tensions are equal too.
func TestTheGreatestTensionIsTheFirstOfTheGreatest(t *testing.T) {
	ties := 0
	eachTension(func(line []impl.Support, x impl.LoadCase) {
		up, holds := tensionsOf(line, x, x.Rub)
		index, greatest := 0, 0
		if holds {
			for i := len(up) - 1; i >= 0; i-- {
				if up[i] == greatest {
					ties++
				}
				if up[i] >= greatest {
					index, greatest = i, up[i]
				}
			}
		}
		if i, n, ok := impl.GreatestTension(line, x); ok != holds || i != index || n != greatest {
			t.Fatalf("GreatestTension(%v, %+v) = %d, %d, %v, not %d, %d", line, x, i, n, ok, index, greatest)
		}
	})
	if ties < 500 {
		t.Errorf("only %d ties", ties)
	}
}

func TestLeastCounterValues(t *testing.T) {
	reversed := lineOf(1500, 1350, 1200)
	cases := []struct {
		line        []impl.Support
		weight, rub int
		want        int // 0 if there is none
	}{
		{exampleLine(), 50, 100, 1}, {reversed, 50, 100, 15200}, {reversed, 50, 0, 15000}, {levelLine(2), 1, 0, 1}, {levelLine(2), 1, 1, 1}, {levelLine(2), 1, 2, 2},
		{levelLine(8), 1000, 1000, 7000}, {levelLine(8), 1, 1, 7}, {lineOf(10, 11), 5, 5, 1}, {lineOf(10, 11), 5, 6, 1}, {lineOf(10, 11), 5, 7, 2},
		// The least tension is that in the middle.
		{lineOf(30, 10, 30), 5, 0, 100}, {lineOf(30, 10, 30), 5, 2, 102}, {lineOf(30, 10, 2000, 15), 5, 2, 102}, {lineOf(30, 10, 2000, 10), 5, 2, 106}, {lineOf(0, 2000, 0), 1000, 0, 1}, {lineOf(0, 2000, 0), 1000, 3, 6},
		{lineOf(1000, 0), 1000, 0, 1000000}, {lineOf(1000, 0), 1000, 1, 0}, {lineOf(1000, 1), 1000, 1000, 1000000}, {lineOf(1001, 0), 999, 1, 1000000}, {lineOf(1001, 0), 999, 2, 0},
		{lineOf(1001, 0), 1000, 0, 0}, {lineOf(2000, 0), 500, 0, 1000000}, {lineOf(2000, 0), 500, 1, 0}, {lineOf(2000, 0), 1000, 1000, 0}, {lineOf(2000, 0, 2000), 1000, 0, 0},
	}
	for _, c := range cases {
		for _, counter := range []int{1, 2, 14999, 15200, 1000000} {
			x := loadCase(c.weight, counter, c.rub)
			if n, ok := impl.LeastCounter(c.line, x); ok != (c.want > 0) || n != c.want {
				t.Errorf("LeastCounter(%v, %+v) = %d, %v, not %d", c.line, x, n, ok, c.want)
			}
		}
	}
}

// TestTheLeastCounterIsTheLeast expects that both ropes hold with it, and not both with one less.
func TestTheLeastCounterIsTheLeast(t *testing.T) {
	holds := func(line []impl.Support, x impl.LoadCase, counter int) bool {
		x.Counter = counter
		_, up := impl.UpTensions(line, x)
		_, down := impl.DownTensions(line, x)
		return up && down
	}
	one, more, none := 0, 0, 0
	eachTension(func(line []impl.Support, x impl.LoadCase) {
		n, ok := impl.LeastCounter(line, x)
		if ok != holds(line, x, impl.MaxTension) || ok && !holds(line, x, n) || n > 1 && holds(line, x, n-1) || !ok && n != 0 {
			t.Fatalf("LeastCounter(%v, %+v) = %d, %v", line, x, n, ok)
		}
		switch {
		case !ok:
			none++
		case n == 1:
			one++
		default:
			more++
		}
	})
	if one < 500 || more < 500 || none < 200 {
		t.Errorf("too few: %d times 1, %d times more, %d times none", one, more, none)
	}
}

func TestSafetyAtValues(t *testing.T) {
	cases := []struct {
		line              []impl.Support
		x                 impl.LoadCase
		support, breaking int
		num, den          int // 0 and 0 if it fails
	}{
		{exampleLine(), exampleCase(), 0, 352000, 88, 5}, {exampleLine(), exampleCase(), 1, 352000, 880, 69}, {exampleLine(), exampleCase(), 2, 352000, 10, 1}, {exampleLine(), exampleCase(), 2, 35200, 1, 1},
		{exampleLine(), exampleCase(), 2, 17600, 1, 2}, {exampleLine(), exampleCase(), 2, 1, 1, 35200}, {exampleLine(), exampleCase(), 0, 1000000, 50, 1}, {levelLine(2), loadCase(1, 1, 0), 1, 1000000, 1000000, 1},
		{exampleLine(), exampleCase(), 3, 352000, 0, 0}, {exampleLine(), exampleCase(), -1, 352000, 0, 0}, {exampleLine(), exampleCase(), 0, 0, 0, 0}, {exampleLine(), exampleCase(), 0, 1000001, 0, 0},
		// A tension of 0 at the last Support, or in the middle: it fails there, and only there.
		{lineOf(30, 20, 10), loadCase(5, 100, 0), 0, 60, 3, 5}, {lineOf(30, 20, 10), loadCase(5, 100, 0), 1, 60, 6, 5}, {lineOf(30, 20, 10), loadCase(5, 100, 0), 2, 60, 0, 0},
		{lineOf(30, 10, 50), loadCase(5, 98, 2), 0, 49, 1, 2}, {lineOf(30, 10, 50), loadCase(5, 98, 2), 1, 49, 0, 0}, {lineOf(30, 10, 50), loadCase(5, 98, 2), 2, 404, 2, 1},
		// Less than 0 elsewhere on the line.
		{lineOf(30, 20, 10), loadCase(5, 99, 0), 0, 60, 0, 0}, {lineOf(30, 20, 10), loadCase(5, 99, 0), 1, 60, 0, 0}, {lineOf(30, 10, 50), loadCase(5, 97, 2), 2, 404, 0, 0},
		// The rope that comes down does not count.
		{levelLine(3), loadCase(1, 1, 1000), 0, 5, 5, 1}, {levelLine(3), loadCase(1, 2, 1000), 2, 1001, 1, 2}, {lineOf(0, 2000), loadCase(1000, 1000000, 1000), 1, 3001, 1, 1000},
	}
	for _, c := range cases {
		if num, den, ok := impl.SafetyAt(c.line, c.x, c.support, c.breaking); ok != (c.den > 0) || num != c.num || den != c.den {
			t.Errorf("SafetyAt(%v, %+v, %d, %d) = %d/%d, %v, not %d/%d", c.line, c.x, c.support, c.breaking, num, den, ok, c.num, c.den)
		}
	}
}

func TestSafetyAtEverySupport(t *testing.T) {
	zeros, fails := 0, 0
	eachTension(func(line []impl.Support, x impl.LoadCase) {
		up, holds := tensionsOf(line, x, x.Rub)
		for support, tension := range up {
			for _, breaking := range []int{1, 20000, 360360, impl.MaxTension} {
				num, den, ok := impl.SafetyAt(line, x, support, breaking)
				if ok != (holds && tension > 0) || !ok && num|den != 0 {
					t.Fatalf("SafetyAt(%v, %+v, %d, %d) = %d/%d, %v", line, x, support, breaking, num, den, ok)
				}
				if ok && !isFraction(num, den, big.NewRat(int64(breaking), int64(tension))) {
					t.Fatalf("SafetyAt(%v, %+v, %d, %d) = %d/%d", line, x, support, breaking, num, den)
				}
			}
			if !holds {
				fails++
			} else if tension == 0 {
				zeros++
			}
		}
		for _, support := range append(extremes(), len(line), len(line)+1) {
			if num, den, ok := impl.SafetyAt(line, x, support, 20000); ok || num|den != 0 {
				t.Fatalf("SafetyAt(%v, %+v, %d) = %d/%d, %v", line, x, support, num, den, ok)
			}
		}
	})
	if zeros < 500 || fails < 500 {
		t.Errorf("only %d tensions of 0 and %d failures", zeros, fails)
	}
}

func TestOverTensionValues(t *testing.T) {
	all := []int{0, 1, 2}
	cases := []struct {
		line  []impl.Support
		x     impl.LoadCase
		limit int
		want  []int
		ok    bool
	}{
		{exampleLine(), exampleCase(), 0, all, true}, {exampleLine(), exampleCase(), 19999, all, true}, {exampleLine(), exampleCase(), 20000, all[1:], true},
		{exampleLine(), exampleCase(), 27599, all[1:], true}, {exampleLine(), exampleCase(), 27600, all[2:], true}, {exampleLine(), exampleCase(), 35199, all[2:], true},
		{exampleLine(), exampleCase(), 35200, nil, true}, {exampleLine(), exampleCase(), 1000000, nil, true}, {exampleLine(), exampleCase(), 1000001, nil, false}, {exampleLine(), exampleCase(), -1, nil, false},
		// A tension of exactly 0 is not greater than the limit 0.
		{lineOf(30, 20, 10), loadCase(5, 100, 0), 0, all[:2], true}, {lineOf(30, 10, 50), loadCase(5, 98, 2), 0, []int{0, 2}, true}, {lineOf(30, 20, 10), loadCase(5, 99, 0), 0, nil, false},
		{lineOf(30, 20, 10), loadCase(5, 101, 0), 0, all, true}, {lineOf(30, 20, 10), loadCase(5, 101, 0), 1, all[:2], true},
		// The rope that comes down does not count.
		{levelLine(3), loadCase(1, 1, 1000), 1000, all[1:], true}, {levelLine(3), loadCase(1, 1, 1000), 1001, all[2:], true},
		{lineOf(0, 2000, 0), loadCase(1000, 1000000, 0), 1000000, []int{1}, true}, {lineOf(0, 2000, 0), loadCase(1000, 1000000, 1), 1000000, []int{1, 2}, true},
	}
	for _, c := range cases {
		if l, ok := impl.OverTension(c.line, c.x, c.limit); ok != c.ok || !slices.Equal(l, c.want) {
			t.Errorf("OverTension(%v, %+v, %d) = %v, %v, not %v, %v", c.line, c.x, c.limit, l, ok, c.want, c.ok)
		}
	}
}

// TestOverTensionAtEachTension takes each tension, and the numbers beside it, as the limit.
func TestOverTensionAtEachTension(t *testing.T) {
	eachTension(func(line []impl.Support, x impl.LoadCase) {
		up, holds := tensionsOf(line, x, x.Rub)
		limits := append(extremes(), -2, 0, 1, impl.MaxTension, impl.MaxTension+1)
		for _, tension := range up {
			limits = append(limits, tension-1, tension, tension+1)
		}
		for _, limit := range limits {
			want := []int{}
			for i, tension := range up {
				if tension > limit {
					want = append(want, i)
				}
			}
			isValid := holds && 0 <= limit && limit <= impl.MaxTension
			if !isValid {
				want = nil
			}
			if l, ok := impl.OverTension(line, x, limit); ok != isValid || !slices.Equal(l, want) {
				t.Fatalf("OverTension(%v, %+v, %d) = %v, %v, not %v, %v", line, x, limit, l, ok, want, isValid)
			}
		}
	})
}

func TestPressAtValues(t *testing.T) {
	at := func(first, place, height, end, last int) []impl.Support {
		return []impl.Support{station(0, first), tower(place, height), station(end, last)}
	}
	cases := []struct {
		line    []impl.Support
		x       impl.LoadCase
		support int
		want    int
	}{
		{exampleLine(), exampleCase(), 1, 6900}, {levelLine(3), loadCase(1, 1000, 5), 1, 0}, {lineOf(10, 20, 30), loadCase(1, 1000, 5), 1, 0},
		{lineOf(10, 20, 10), loadCase(1, 1000, 5), 1, 2030}, {lineOf(20, 10, 20), loadCase(1, 1000, 5), 1, -1990}, {lineOf(10, 10, 20), loadCase(1, 1000, 5), 1, -1005}, {lineOf(20, 20, 10), loadCase(1, 1000, 5), 1, 1005},
		{lineOf(0, 20, 0, 10, 10), loadCase(1, 1000, 0), 1, 4080}, {lineOf(0, 20, 0, 10, 10), loadCase(1, 1000, 0), 2, -3000}, {lineOf(0, 20, 0, 10, 10), loadCase(1, 1000, 0), 3, 1010},
		// The slopes 1/3 and 2/3 are 333 and 666 thousandths, not 667; going down they are -333 and -666, not -334 and -667.
		{at(0, 3, 1, 6, 1), loadCase(1, 999, 0), 1, 333}, {at(0, 3, 2, 6, 2), loadCase(1, 998, 0), 1, 666}, {at(1, 3, 0, 6, 0), loadCase(1, 1001, 0), 1, -333}, {at(2, 3, 0, 6, 0), loadCase(1, 1002, 0), 1, -666},
		{at(0, 3, 0, 6, 1), loadCase(1, 1000, 0), 1, -333}, {at(1, 3, 1, 6, 0), loadCase(1, 1000, 0), 1, 333}, {at(0, 3, 0, 6, 2), loadCase(1, 1000, 0), 1, -666}, {at(2, 3, 2, 6, 0), loadCase(1, 1000, 0), 1, 666},
		// Rounded one by one, the slopes 2/3 and -2/3 differ by 1332, not by 1333, and 1/3 and 2/3 by 333.
		{at(0, 3, 2, 6, 0), loadCase(1, 998, 0), 1, 1332}, {at(2, 3, 0, 6, 2), loadCase(1, 1002, 0), 1, -1332}, {at(0, 3, 1, 6, 3), loadCase(1, 999, 0), 1, -333}, {at(0, 3, 2, 6, 3), loadCase(1, 998, 0), 1, 333},
		// Slopes of less than a thousandth are 0.
		{at(0, 1001, 1, 1002, 1), loadCase(1, 999999, 0), 1, 0}, {at(1, 1001, 0, 1002, 0), loadCase(1, 1000000, 0), 1, 0}, {at(0, 1000, 1, 1001, 1), loadCase(1, 999999, 0), 1, 1000},
		// The result is rounded towards 0 on both sides.
		{at(0, 1000, 0, 2000, 1), loadCase(1, 1, 0), 1, 0}, {at(0, 1000, 0, 2000, 1), loadCase(1, 999, 0), 1, 0}, {at(0, 1000, 0, 2000, 1), loadCase(1, 1000, 0), 1, -1}, {at(0, 1000, 0, 2000, 1), loadCase(1, 1999, 0), 1, -1},
		{at(1, 1000, 1, 2000, 0), loadCase(1, 999, 0), 1, 0}, {at(1, 1000, 1, 2000, 0), loadCase(1, 1999, 0), 1, 1}, {at(1, 1000, 1, 2000, 0), loadCase(1, 2000, 0), 1, 2},
		// A tension of exactly 0 presses on nothing, but is one.
		{lineOf(30, 10, 50), loadCase(5, 98, 2), 1, 0}, {lineOf(30, 20, 10), loadCase(5, 100, 0), 1, 0}, {lineOf(30, 25, 10), loadCase(5, 100, 0), 1, 75},
		// The rope that comes down does not count.
		{lineOf(10, 10, 10, 9), loadCase(1, 1, 1000), 1, 0}, {lineOf(10, 10, 10, 9), loadCase(1, 1, 1000), 2, 200},
		{at(0, 1, 2000, 2, 0), loadCase(1000, 1000000, 1000), 1, 12004000000}, {at(2000, 1, 1000, 2, 2000), loadCase(1000, 1000000, 1000), 1, -2000000},
	}
	for _, c := range cases {
		if n, ok := impl.PressAt(c.line, c.x, c.support); !ok || n != c.want {
			t.Errorf("PressAt(%v, %+v, %d) = %d, %v, not %d", c.line, c.x, c.support, n, ok, c.want)
		}
	}
}

// towardsZero returns num divided by den, which is positive, and rounded towards 0.
func towardsZero(num, den int) int {
	if num < 0 {
		return -towardsZero(-num, den)
	}
	return (num - num%den) / den
}

func TestPressAtEverySupport(t *testing.T) {
	presses, pulls, fails := 0, 0, 0
	eachTension(func(line []impl.Support, x impl.LoadCase) {
		up, holds := tensionsOf(line, x, x.Rub)
		for support := 1; support < len(line)-1; support++ {
			before, here, after := line[support-1], line[support], line[support+1]
			bend := towardsZero(1000*(here.Height-before.Height), here.At-before.At) - towardsZero(1000*(after.Height-here.Height), after.At-here.At)
			want := 0
			if holds {
				want = towardsZero(up[support]*bend, 1000)
			}
			n, ok := impl.PressAt(line, x, support)
			if ok != holds || n != want {
				t.Fatalf("PressAt(%v, %+v, %d) = %d, %v, not %d, %v", line, x, support, n, ok, want, holds)
			}
			switch {
			case !ok:
				fails++
			case n > 0:
				presses++
			case n < 0:
				pulls++
			}
		}
		for _, support := range append(extremes(), 0, len(line)-1, len(line), len(line)+1) {
			if n, ok := impl.PressAt(line, x, support); ok || n != 0 {
				t.Fatalf("PressAt(%v, %+v, %d) = %d, %v", line, x, support, n, ok)
			}
		}
	})
	if presses < 500 || pulls < 500 || fails < 500 {
		t.Errorf("only %d presses, %d pulls and %d failures", presses, pulls, fails)
	}
}

// tensionResults returns the results of all functions of the chapter as text. It fails the test if
// one of them succeeds for an invalid line or LoadCase, or returns a result beside false that is
// not zero.
func tensionResults(t *testing.T, line []impl.Support, x impl.LoadCase, support, n int) string {
	t.Helper()
	valid := impl.IsLine(line) && impl.IsLoadCase(x)
	up, upOk := impl.UpTensions(line, x)
	down, downOk := impl.DownTensions(line, x)
	force, forceOk := impl.DriveForce(line, x)
	index, greatest, greatestOk := impl.GreatestTension(line, x)
	least, leastOk := impl.LeastCounter(line, x)
	num, den, safetyOk := impl.SafetyAt(line, x, support, n)
	over, overOk := impl.OverTension(line, x, n)
	press, pressOk := impl.PressAt(line, x, support)
	if !valid && (upOk || downOk || forceOk || greatestOk || leastOk || safetyOk || overOk || pressOk) {
		t.Fatalf("%.300s, %+v, %d, %d: a function succeeds", fmt.Sprint(line), x, support, n)
	}
	if !upOk && len(up) != 0 || !downOk && len(down) != 0 || !overOk && len(over) != 0 || !forceOk && force != 0 || !greatestOk && index|greatest != 0 || !leastOk && least != 0 || !safetyOk && num|den != 0 || !pressOk && press != 0 {
		t.Fatalf("%.300s, %+v, %d, %d: a result beside false is not zero", fmt.Sprint(line), x, support, n)
	}
	return fmt.Sprint(valid, up, upOk, down, downOk, force, forceOk, index, greatest, greatestOk, least, leastOk, num, den, safetyOk, over, overOk, press, pressOk)
}

// TestTensionsReturnForAllArguments gives valid and invalid arguments to every function of the
// chapter, as parts of longer lists, and expects that nothing in these lists changes, that what
// stands behind them does not count, and that a second call returns the same.
func TestTensionsReturnForAllArguments(t *testing.T) {
	behind := []impl.Support{station(3, 8), tower(-1, 9999), station(math.MaxInt, math.MinInt)}
	tried := append(extremes(), 0, 1, 2, 3, 7, 8, 352000, impl.MaxTension, impl.MaxTension+1)
	check := func(line []impl.Support, x impl.LoadCase) {
		memory := append(slices.Clone(line), behind...)
		before := slices.Clone(memory)
		for i, n := range tried {
			for _, support := range []int{1, n, tried[(i+5)%len(tried)]} {
				first := tensionResults(t, slices.Clone(line), x, support, n)
				if second := tensionResults(t, memory[:len(line)], x, support, n); second != first {
					t.Fatalf("%.300s and then %.300s", first, second)
				}
			}
		}
		if !slices.Equal(memory, before) {
			t.Fatalf("the argument %.300s is changed", fmt.Sprint(line))
		}
	}
	lines := [][]impl.Support{exampleLine(), longestLine(), levelLine(8), lineOf(30, 20, 10), lineOf(30, 10, 50)}
	cases := []impl.LoadCase{exampleCase(), loadCase(1, 1, 0), loadCase(5, 100, 0), loadCase(5, 98, 2), loadCase(1000, impl.MaxTension, 1000)}
	for _, line := range append(invalidLines(), lines...) {
		for _, x := range cases {
			check(line, x)
		}
	}
	for _, x := range invalidLoadCases() {
		for _, line := range append(lines, nil) {
			check(line, x)
		}
	}
	for _, n := range extremes() {
		for _, m := range extremes() {
			check(exampleLine(), loadCase(n, m, n))
			check([]impl.Support{station(0, n), tower(m, m), station(n, 0)}, loadCase(m, n, m))
		}
	}
}

// TestTensionsReturnNewMemory changes the results, and behind their length, and expects that
// neither the argument nor a later result changes with them.
func TestTensionsReturnNewMemory(t *testing.T) {
	line := longestLine()
	before := slices.Clone(line)
	x := loadCase(3, 100000, 9)
	over := func(line []impl.Support, x impl.LoadCase) ([]int, bool) { return impl.OverTension(line, x, 96000) }
	for _, f := range []func([]impl.Support, impl.LoadCase) ([]int, bool){impl.UpTensions, impl.DownTensions, over} {
		one, oneOk := f(line, x)
		two, _ := f(line, x)
		kept := slices.Clone(two)
		if !oneOk || len(one) == 0 || !slices.Equal(one, two) {
			t.Fatalf("%v, %v and then %v", one, oneOk, two)
		}
		_ = append(one, 77, 78)
		clear(one)
		three, _ := f(line, x)
		if !slices.Equal(two, kept) || !slices.Equal(three, kept) || !slices.Equal(line, before) {
			t.Errorf("a result shares memory: %v, %v", two, three)
		}
	}
}
