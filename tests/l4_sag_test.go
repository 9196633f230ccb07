package tests

import (
	"fmt"
	"math"
	"math/big"
	"slices"
	"testing"

	"loop.example/g00935/impl"
)

func rope(weight, pull int) impl.Rope {
	return impl.Rope{Weight: weight, Pull: pull}
}

func point(at, height int) impl.GroundPoint {
	return impl.GroundPoint{At: at, Height: height}
}

// exampleGround is a ground below exampleLine.
func exampleGround() []impl.GroundPoint {
	return []impl.GroundPoint{point(0, 1190), point(900, 1300)}
}

// shortSpans is a line on which every whole number is the place of a Support, so that its rope has
// the sag 0 at all of them.
func shortSpans() []impl.Support {
	return []impl.Support{station(0, 5), tower(1, 5), tower(2, 9), tower(3, 0), station(4, 5)}
}

// sagLines returns lines of all numbers of Supports, few enough to look at each place of them.
func sagLines() [][]impl.Support {
	lines := [][]impl.Support{shortSpans(), {station(0, 7), station(1, 9)}, {station(0, 0), station(impl.MaxPlace, impl.MaxHeight)}}
	for i, line := range validLines() {
		if i%131 == 0 {
			lines = append(lines, line)
		}
	}
	return append(lines, exampleLine(), longestLine())
}

// ropesInUse meet the limits of a Rope; 99991 is a prime number, with which fractions stay long.
func ropesInUse() []impl.Rope {
	return []impl.Rope{rope(50, 10000), rope(1, 1), rope(200, 1), rope(1, impl.MaxPull), rope(200, impl.MaxPull), rope(13, 720), rope(199, 99991)}
}

// invalidRopes returns Ropes that break one rule each, as far as possible.
func invalidRopes() []impl.Rope {
	ropes := []impl.Rope{{}, rope(0, 5), rope(201, 5), rope(5, 0), rope(5, impl.MaxPull+1)}
	for _, n := range extremes() {
		ropes = append(ropes, rope(n, 5), rope(5, n), rope(n, n))
	}
	return ropes
}

// groundBelow returns a ground below a line, with as many points as the seed tells.
func groundBelow(line []impl.Support, seed int) []impl.GroundPoint {
	next := numbers(seed)
	end := line[len(line)-1].At
	places := []int{0, end}
	for range next(impl.MaxGround - 1) {
		place := next(end + 1)
		if !slices.Contains(places, place) {
			places = append(places, place)
		}
	}
	slices.Sort(places)
	most := []int{1, 50, impl.MaxHeight + 1}[next(3)]
	ground := []impl.GroundPoint{}
	for _, place := range places {
		ground = append(ground, point(place, next(most)))
	}
	return ground
}

// invalidGrounds returns lists that are no ground below a line with the last place 900.
func invalidGrounds() [][]impl.GroundPoint {
	nine := []impl.GroundPoint{}
	for i := range impl.MaxGround {
		nine = append(nine, point(i, 5))
	}
	nine = append(nine, point(900, 5))
	grounds := [][]impl.GroundPoint{
		nil, {}, {point(0, 5)}, {point(900, 5)}, nine, make([]impl.GroundPoint, 2), make([]impl.GroundPoint, 100000),
		{point(1, 5), point(900, 5)}, {point(-1, 5), point(900, 5)}, {point(0, 5), point(899, 5)}, {point(0, 5), point(901, 5)},
		{point(0, 5), point(0, 5), point(900, 5)}, {point(0, 5), point(900, 5), point(900, 5)}, {point(0, 5), point(7, 5), point(7, 5), point(900, 5)},
		{point(0, 5), point(7, 5), point(6, 5), point(900, 5)}, {point(0, 5), point(901, 5), point(900, 5)}, {point(0, 5), point(-1, 5), point(900, 5)},
		{point(900, 5), point(0, 5)}, {point(0, -1), point(900, 5)}, {point(0, 5), point(900, -1)}, {point(0, 5), point(7, -1), point(900, 5)},
		{point(0, 2001), point(900, 5)}, {point(0, 5), point(900, 2001)}, {point(0, 5), point(7, 2001), point(900, 5)},
	}
	for _, n := range extremes() {
		grounds = append(grounds,
			[]impl.GroundPoint{point(n, 5), point(900, 5)}, []impl.GroundPoint{point(0, 5), point(n, 5)},
			[]impl.GroundPoint{point(0, n), point(900, 5)}, []impl.GroundPoint{point(0, 5), point(900, n)},
			[]impl.GroundPoint{point(0, 5), point(n, n), point(900, 5)})
	}
	return grounds
}

// ratioOf returns a product of numbers divided by den.
func ratioOf(den int, factors ...int) *big.Rat {
	product := big.NewRat(1, int64(den))
	for _, f := range factors {
		product.Mul(product, big.NewRat(int64(f), 1))
	}
	return product
}

// isFraction reports whether num and den are the fraction of a number.
func isFraction(num, den int, want *big.Rat) bool {
	return want.Num().Cmp(big.NewInt(int64(num))) == 0 && want.Denom().Cmp(big.NewInt(int64(den))) == 0
}

// sagOf returns the sag at a place of a line, as the document defines it, of both spans at a
// Support the last one.
func sagOf(line []impl.Support, r impl.Rope, place, load int) *big.Rat {
	var sag *big.Rat
	for i := range len(line) - 1 {
		from, to := line[i].At, line[i+1].At
		if from <= place && place <= to {
			sag = ratioOf(2*r.Pull, r.Weight, place-from, to-place)
			sag.Add(sag, ratioOf((to-from)*r.Pull, load, place-from, to-place))
		}
	}
	return sag
}

// clearanceOf returns the clearance at a place of a line. The ground is a mean of the Heights at
// both ends of its part, each weighed with the distance from the other end.
func clearanceOf(line []impl.Support, r impl.Rope, ground []impl.GroundPoint, place int) *big.Rat {
	clearance := chordOf(line, place)
	clearance.Sub(clearance, sagOf(line, r, place, 0))
	for i := range len(ground) - 1 {
		from, to := ground[i], ground[i+1]
		if from.At <= place && (place < to.At || i == len(ground)-2) {
			clearance.Sub(clearance, ratioOf(to.At-from.At, from.Height, to.At-place))
			clearance.Sub(clearance, ratioOf(to.At-from.At, to.Height, place-from.At))
		}
	}
	return clearance
}

// placesToTry returns the places at and beside the Supports and the middles of the spans.
func placesToTry(line []impl.Support) []int {
	places := []int{0}
	for i := range len(line) - 1 {
		from, to := line[i].At, line[i+1].At
		for _, place := range []int{from + 1, (from + to) / 2, (from+to)/2 + 1, to - 1, to} {
			if place > places[len(places)-1] && place <= to {
				places = append(places, place)
			}
		}
	}
	return places
}

// placesOutside returns places that do not occur on a line.
func placesOutside(line []impl.Support) []int {
	end := line[len(line)-1].At
	return append(extremes(), end+1, -end)
}

func TestIsRopeAcceptsUpToTheLimits(t *testing.T) {
	for _, r := range append(ropesInUse(), rope(1, 5), rope(200, 5), rope(5, 1), rope(5, impl.MaxPull)) {
		if !impl.IsRope(r) {
			t.Errorf("IsRope(%v) is false", r)
		}
	}
	for _, r := range invalidRopes() {
		if impl.IsRope(r) {
			t.Errorf("IsRope(%v) is true", r)
		}
	}
}

func TestIsGroundAcceptsUpToTheLimits(t *testing.T) {
	eight := []impl.GroundPoint{}
	for i := range impl.MaxGround - 1 {
		eight = append(eight, point(i, i%2*impl.MaxHeight))
	}
	eight = append(eight, point(900, impl.MaxHeight))
	for _, ground := range [][]impl.GroundPoint{
		exampleGround(), eight, {point(0, 0), point(900, 0)}, {point(0, 2000), point(900, 2000)}, {point(0, 0), point(899, 0), point(900, 0)}, {point(0, 2000), point(1, 0), point(900, 3)},
	} {
		if !impl.IsGround(exampleLine(), ground) {
			t.Errorf("IsGround(%v) is false", ground)
		}
	}
	for _, ground := range invalidGrounds() {
		if impl.IsGround(exampleLine(), ground) {
			t.Errorf("IsGround(%.300s) is true", fmt.Sprint(ground))
		}
	}
}

// TestIsGroundOfItsLineOnly expects that a ground belongs to the last place of a line, and to no
// invalid line.
func TestIsGroundOfItsLineOnly(t *testing.T) {
	for i, line := range validLines() {
		ground := groundBelow(line, i)
		if !impl.IsGround(line, ground) {
			t.Fatalf("IsGround(%v, %v) is false", line, ground)
		}
		longer := slices.Clone(line)
		longer[len(longer)-1].At++
		if impl.IsGround(longer, ground) {
			t.Fatalf("IsGround(%v, %v) is true", longer, ground)
		}
	}
	for _, line := range invalidLines() {
		end := 900
		if len(line) > 0 {
			end = line[len(line)-1].At
		}
		for _, ground := range [][]impl.GroundPoint{{point(0, 5), point(end, 5)}, {point(0, 5), point(900, 5)}, nil} {
			if impl.IsGround(line, ground) {
				t.Fatalf("IsGround(%.300s, %v) is true", fmt.Sprint(line), ground)
			}
		}
	}
}

func TestSagValues(t *testing.T) {
	long := []impl.Support{station(0, 0), station(3000, 2000)}
	cases := []struct {
		line                  []impl.Support
		r                     impl.Rope
		place, load, num, den int
	}{
		{exampleLine(), rope(50, 10000), 150, 0, 225, 4}, {exampleLine(), rope(50, 10000), 150, 8000, 465, 4},
		{exampleLine(), rope(50, 10000), 0, 0, 0, 1}, {exampleLine(), rope(50, 10000), 300, 0, 0, 1}, {exampleLine(), rope(50, 10000), 900, 0, 0, 1},
		{exampleLine(), rope(50, 10000), 0, 20000, 0, 1}, {exampleLine(), rope(50, 10000), 300, 20000, 0, 1}, {exampleLine(), rope(50, 10000), 900, 20000, 0, 1},
		{exampleLine(), rope(50, 10000), 1, 0, 299, 400}, {exampleLine(), rope(50, 10000), 301, 0, 599, 400}, {exampleLine(), rope(50, 10000), 600, 0, 225, 1},
		{exampleLine(), rope(50, 10000), 600, 1, 45003, 200}, {exampleLine(), rope(50, 10000), 600, 20000, 525, 1}, {exampleLine(), rope(50, 10000), 299, 0, 299, 400},
		{long, rope(200, 1), 1500, 0, 225000000, 1}, {long, rope(200, 1), 1500, 20000, 240000000, 1}, {long, rope(1, 100000), 1, 0, 2999, 200000},
		{long, rope(1, 100000), 1, 1, 2999 * 1501, 300000000}, {long, rope(199, 99991), 1499, 0, 199 * 1499 * 1501, 199982},
		{shortSpans(), rope(200, 1), 2, 20000, 0, 1}, {[]impl.Support{station(0, 3), station(2, 3)}, rope(1, 1), 1, 0, 1, 2}, {[]impl.Support{station(0, 3), station(2, 3)}, rope(1, 1), 1, 1, 1, 1},
	}
	for _, c := range cases {
		if num, den, ok := impl.LoadedSag(c.line, c.r, c.place, c.load); !ok || num != c.num || den != c.den {
			t.Errorf("LoadedSag(%v, %v, %d, %d) = %d/%d, %v, not %d/%d", c.line, c.r, c.place, c.load, num, den, ok, c.num, c.den)
		}
		if c.load != 0 {
			continue
		}
		if num, den, ok := impl.SagAt(c.line, c.r, c.place); !ok || num != c.num || den != c.den {
			t.Errorf("SagAt(%v, %v, %d) = %d/%d, %v, not %d/%d", c.line, c.r, c.place, num, den, ok, c.num, c.den)
		}
	}
}

func TestSagAtPlacesOfManyLines(t *testing.T) {
	for _, line := range sagLines() {
		for _, r := range ropesInUse() {
			for _, place := range placesToTry(line) {
				num, den, ok := impl.SagAt(line, r, place)
				if want := sagOf(line, r, place, 0); !ok || !isFraction(num, den, want) {
					t.Fatalf("SagAt(%v, %v, %d) = %d/%d, %v, not %v", line, r, place, num, den, ok, want)
				}
				for _, load := range []int{0, 1, 777, 20000} {
					num, den, ok := impl.LoadedSag(line, r, place, load)
					if want := sagOf(line, r, place, load); !ok || !isFraction(num, den, want) {
						t.Fatalf("LoadedSag(%v, %v, %d, %d) = %d/%d, %v, not %v", line, r, place, load, num, den, ok, want)
					}
				}
			}
		}
	}
}

// TestSagIsZeroAtSupportsOnly looks at every place of lines with long and short spans.
func TestSagIsZeroAtSupportsOnly(t *testing.T) {
	for _, line := range [][]impl.Support{exampleLine(), longestLine(), shortSpans()} {
		for place := range line[len(line)-1].At + 1 {
			held := slices.ContainsFunc(line, func(s impl.Support) bool { return s.At == place })
			for _, load := range []int{0, 20000} {
				num, den, ok := impl.LoadedSag(line, rope(1, impl.MaxPull), place, load)
				if !ok || held && (num != 0 || den != 1) || !held && num <= 0 {
					t.Fatalf("LoadedSag(%v, %d, %d) = %d/%d, %v", line, place, load, num, den, ok)
				}
			}
		}
	}
}

func TestSagFails(t *testing.T) {
	check := func(line []impl.Support, r impl.Rope, place, load int) {
		t.Helper()
		num, den, ok := impl.LoadedSag(line, r, place, load)
		if ok || num != 0 || den != 0 {
			t.Errorf("LoadedSag(%.300s, %v, %d, %d) = %d/%d, %v", fmt.Sprint(line), r, place, load, num, den, ok)
		}
		if load != 0 {
			return
		}
		if num, den, ok := impl.SagAt(line, r, place); ok || num != 0 || den != 0 {
			t.Errorf("SagAt(%.300s, %v, %d) = %d/%d, %v", fmt.Sprint(line), r, place, num, den, ok)
		}
	}
	for _, line := range invalidLines() {
		check(line, rope(50, 10000), 0, 0)
		check(line, rope(50, 10000), 3, 5)
	}
	for _, r := range invalidRopes() {
		check(exampleLine(), r, 150, 0)
		check(exampleLine(), r, 300, 0)
	}
	for _, place := range placesOutside(exampleLine()) {
		check(exampleLine(), rope(50, 10000), place, 0)
		check(exampleLine(), rope(50, 10000), place, 5)
	}
	for _, load := range append(extremes(), 20001) {
		check(exampleLine(), rope(50, 10000), 150, load)
		check(exampleLine(), rope(50, 10000), 300, load)
	}
}

func TestGreatestSagValues(t *testing.T) {
	cases := []struct {
		line            []impl.Support
		r               impl.Rope
		place, num, den int
	}{
		{exampleLine(), rope(50, 10000), 600, 225, 1},
		{shortSpans(), rope(200, 1), 0, 0, 1}, {[]impl.Support{station(0, 7), station(1, 9)}, rope(50, 7), 0, 0, 1},
		{[]impl.Support{station(0, 7), station(2, 9)}, rope(50, 7), 1, 25, 7}, {[]impl.Support{station(0, 7), station(3, 9)}, rope(50, 7), 1, 50, 7},
		{[]impl.Support{station(0, 7), tower(1, 7), station(3, 9)}, rope(50, 7), 2, 25, 7},
		{[]impl.Support{station(0, 7), tower(4, 7), station(8, 9)}, rope(1, 1), 2, 2, 1}, {[]impl.Support{station(0, 7), tower(5, 7), station(10, 9)}, rope(1, 1), 2, 3, 1},
		{[]impl.Support{station(0, 7), tower(4, 7), station(9, 9)}, rope(1, 1), 6, 3, 1}, {[]impl.Support{station(0, 7), tower(5, 7), station(9, 9)}, rope(1, 1), 2, 3, 1},
		{[]impl.Support{station(0, 7), tower(1, 0), tower(6, 7), tower(7, 1), tower(12, 9), station(13, 0)}, rope(1, 1), 3, 3, 1},
		{[]impl.Support{station(0, 0), station(3000, 2000)}, rope(200, 1), 1500, 225000000, 1},
		{longestLine(), rope(1, 100000), 1850, 1149 * 1149, 200000},
	}
	for _, c := range cases {
		if place, num, den, ok := impl.GreatestSag(c.line, c.r); !ok || place != c.place || num != c.num || den != c.den {
			t.Errorf("GreatestSag(%v, %v) = %d, %d/%d, %v, not %d, %d/%d", c.line, c.r, place, num, den, ok, c.place, c.num, c.den)
		}
	}
}

func TestGreatestSagIsTheFirstOfTheGreatest(t *testing.T) {
	for i, line := range sagLines() {
		r := ropesInUse()[i%len(ropesInUse())]
		lowest, greatest := 0, big.NewRat(-1, 1)
		for place := range line[len(line)-1].At + 1 {
			if sag := sagOf(line, r, place, 0); sag.Cmp(greatest) > 0 {
				lowest, greatest = place, sag
			}
		}
		if place, num, den, ok := impl.GreatestSag(line, r); !ok || place != lowest || !isFraction(num, den, greatest) {
			t.Fatalf("GreatestSag(%v, %v) = %d, %d/%d, %v, not %d, %v", line, r, place, num, den, ok, lowest, greatest)
		}
	}
}

func TestGreatestSagFails(t *testing.T) {
	check := func(line []impl.Support, r impl.Rope) {
		t.Helper()
		if place, num, den, ok := impl.GreatestSag(line, r); ok || place != 0 || num != 0 || den != 0 {
			t.Errorf("GreatestSag(%.300s, %v) = %d, %d/%d, %v", fmt.Sprint(line), r, place, num, den, ok)
		}
	}
	for _, line := range invalidLines() {
		check(line, rope(50, 10000))
	}
	for _, r := range invalidRopes() {
		check(exampleLine(), r)
		check(shortSpans(), r)
	}
}

func TestClearanceAtValues(t *testing.T) {
	flat := []impl.Support{station(0, 10), tower(4, 10), station(8, 10)}
	hills := []impl.GroundPoint{point(0, 10), point(3, 1), point(4, 11), point(8, 0)}
	cases := []struct {
		line            []impl.Support
		r               impl.Rope
		ground          []impl.GroundPoint
		place, num, den int
	}{
		{exampleLine(), rope(50, 10000), exampleGround(), 600, -190, 3}, {exampleLine(), rope(50, 10000), exampleGround(), 0, 10, 1},
		{exampleLine(), rope(50, 10000), exampleGround(), 900, 200, 1}, {exampleLine(), rope(50, 10000), exampleGround(), 300, 370, 3},
		{exampleLine(), rope(50, 10000), exampleGround(), 574, -58469, 900}, {exampleLine(), rope(50, 10000), exampleGround(), 1, 34669, 3600},
		{flat, rope(1, 1), hills, 0, 0, 1}, {flat, rope(1, 1), hills, 1, 3, 2}, {flat, rope(1, 1), hills, 2, 4, 1}, {flat, rope(1, 1), hills, 3, 15, 2},
		{flat, rope(1, 1), hills, 4, -1, 1}, {flat, rope(1, 1), hills, 5, 1, 4}, {flat, rope(1, 1), hills, 6, 5, 2}, {flat, rope(1, 1), hills, 7, 23, 4}, {flat, rope(1, 1), hills, 8, 10, 1},
		{[]impl.Support{station(0, 0), station(3000, 0)}, rope(200, 1), []impl.GroundPoint{point(0, 2000), point(3000, 2000)}, 1500, -225002000, 1},
		{shortSpans(), rope(200, 1), []impl.GroundPoint{point(0, 5), point(4, 5)}, 3, -5, 1}, {shortSpans(), rope(200, 1), []impl.GroundPoint{point(0, 5), point(4, 5)}, 1, 0, 1},
	}
	for _, c := range cases {
		if num, den, ok := impl.ClearanceAt(c.line, c.r, c.ground, c.place); !ok || num != c.num || den != c.den {
			t.Errorf("ClearanceAt(%v, %v, %v, %d) = %d/%d, %v, not %d/%d", c.line, c.r, c.ground, c.place, num, den, ok, c.num, c.den)
		}
	}
}

func TestLowestClearanceValues(t *testing.T) {
	flat := []impl.Support{station(0, 10), tower(5, 10), station(10, 10)}
	below := []impl.GroundPoint{point(0, 0), point(10, 0)}
	cases := []struct {
		line            []impl.Support
		r               impl.Rope
		ground          []impl.GroundPoint
		place, num, den int
	}{
		{exampleLine(), rope(50, 10000), exampleGround(), 574, -58469, 900},
		{flat, rope(1, 1), below, 2, 7, 1}, {flat, rope(1, 100000), below, 2, 999997, 100000},
		{flat, rope(1, 1), []impl.GroundPoint{point(0, 0), point(7, 0), point(8, 1), point(10, 0)}, 8, 6, 1},
		{flat, rope(1, 1), []impl.GroundPoint{point(0, 0), point(7, 1), point(8, 0), point(10, 0)}, 7, 6, 1},
		{flat, rope(1, 1), []impl.GroundPoint{point(0, 9), point(1, 0), point(10, 0)}, 0, 1, 1},
		{flat, rope(1, 1), []impl.GroundPoint{point(0, 0), point(9, 0), point(10, 10)}, 10, 0, 1},
		{flat, rope(1, 1), []impl.GroundPoint{point(0, 7), point(1, 0), point(2, 4), point(3, 0), point(5, 7), point(6, 0), point(9, 0), point(10, 7)}, 0, 3, 1},
		{shortSpans(), rope(200, 1), []impl.GroundPoint{point(0, 0), point(4, 0)}, 3, 0, 1}, {shortSpans(), rope(200, 1), []impl.GroundPoint{point(0, 5), point(4, 5)}, 3, -5, 1},
		{[]impl.Support{station(0, 5), tower(1, 5), station(2, 5)}, rope(200, 1), []impl.GroundPoint{point(0, 5), point(2, 5)}, 0, 0, 1},
		{[]impl.Support{station(0, 5), station(1, 7)}, rope(200, 1), []impl.GroundPoint{point(0, 3), point(1, 5)}, 0, 2, 1},
		{[]impl.Support{station(0, 5), station(1, 7)}, rope(200, 1), []impl.GroundPoint{point(0, 3), point(1, 6)}, 1, 1, 1},
		{[]impl.Support{station(0, 0), station(3000, 0)}, rope(200, 1), []impl.GroundPoint{point(0, 2000), point(3000, 2000)}, 1500, -225002000, 1},
	}
	for _, c := range cases {
		if place, num, den, ok := impl.LowestClearance(c.line, c.r, c.ground); !ok || place != c.place || num != c.num || den != c.den {
			t.Errorf("LowestClearance(%v, %v, %v) = %d, %d/%d, %v, not %d, %d/%d", c.line, c.r, c.ground, place, num, den, ok, c.place, c.num, c.den)
		}
	}
}

// TestClearanceAtEveryPlace compares every clearance, and the lowest one, with those of exact
// numbers of any size.
func TestClearanceAtEveryPlace(t *testing.T) {
	for i, line := range sagLines() {
		r := ropesInUse()[i%len(ropesInUse())]
		ground := groundBelow(line, i)
		first, lowest := 0, clearanceOf(line, r, ground, 0)
		for place := range line[len(line)-1].At + 1 {
			want := clearanceOf(line, r, ground, place)
			if num, den, ok := impl.ClearanceAt(line, r, ground, place); !ok || !isFraction(num, den, want) {
				t.Fatalf("ClearanceAt(%v, %v, %v, %d) = %d/%d, %v, not %v", line, r, ground, place, num, den, ok, want)
			}
			if want.Cmp(lowest) < 0 {
				first, lowest = place, want
			}
		}
		if place, num, den, ok := impl.LowestClearance(line, r, ground); !ok || place != first || !isFraction(num, den, lowest) {
			t.Fatalf("LowestClearance(%v, %v, %v) = %d, %d/%d, %v, not %d, %v", line, r, ground, place, num, den, ok, first, lowest)
		}
	}
}

// TestLowestClearanceOfLongFractions takes clearances whose products are larger than an int: they
// are alike in two spans, but the fractions have different large dens.
func TestLowestClearanceOfLongFractions(t *testing.T) {
	for seed := range 60 {
		next := numbers(seed)
		line := []impl.Support{station(0, 1000), tower(1487+next(9), 990+next(20)), station(2999-next(9), 1000)}
		middle := line[1].At - 300 + next(600)
		ground := []impl.GroundPoint{point(0, 500), point(middle, 480+next(40)), point(line[2].At, 500)}
		r := rope(150+next(50), []int{99991, 99989, 99971, 3}[next(4)])
		first, lowest := 0, clearanceOf(line, r, ground, 0)
		for place := range line[2].At + 1 {
			if here := clearanceOf(line, r, ground, place); here.Cmp(lowest) < 0 {
				first, lowest = place, here
			}
		}
		if place, num, den, ok := impl.LowestClearance(line, r, ground); !ok || place != first || !isFraction(num, den, lowest) {
			t.Fatalf("LowestClearance(%v, %v, %v) = %d, %d/%d, %v, not %d, %v", line, r, ground, place, num, den, ok, first, lowest)
		}
	}
}

func TestClearanceFails(t *testing.T) {
	check := func(line []impl.Support, r impl.Rope, ground []impl.GroundPoint, place int) {
		t.Helper()
		if num, den, ok := impl.ClearanceAt(line, r, ground, place); ok || num != 0 || den != 0 {
			t.Errorf("ClearanceAt(%.300s, %v, %.300s, %d) = %d/%d, %v", fmt.Sprint(line), r, fmt.Sprint(ground), place, num, den, ok)
		}
		if place != 0 {
			return
		}
		if place, num, den, ok := impl.LowestClearance(line, r, ground); ok || place != 0 || num != 0 || den != 0 {
			t.Errorf("LowestClearance(%.300s, %v, %.300s) = %d, %d/%d, %v", fmt.Sprint(line), r, fmt.Sprint(ground), place, num, den, ok)
		}
	}
	for _, place := range []int{0, 3} {
		for _, line := range invalidLines() {
			check(line, rope(50, 10000), []impl.GroundPoint{point(0, 5), point(5, 5)}, place)
		}
		for _, r := range invalidRopes() {
			check(exampleLine(), r, exampleGround(), place)
		}
		for _, ground := range invalidGrounds() {
			check(exampleLine(), rope(50, 10000), ground, place)
		}
	}
	for _, place := range placesOutside(exampleLine()) {
		check(exampleLine(), rope(50, 10000), exampleGround(), place)
	}
}

func TestPullForValues(t *testing.T) {
	cases := []struct {
		line                      []impl.Support
		weight, place, sag, wants int
	}{
		{exampleLine(), 50, 150, 10, 56250}, {exampleLine(), 50, 150, 100, 5625}, {exampleLine(), 50, 1, 1, 7475}, {exampleLine(), 50, 1, 2, 3738}, {exampleLine(), 50, 1, 100, 75},
		{exampleLine(), 50, 0, 0, 1}, {exampleLine(), 50, 300, 0, 1}, {exampleLine(), 200, 900, 0, 1}, {exampleLine(), 200, 300, 1, 1}, {exampleLine(), 200, 0, 100, 1},
		{shortSpans(), 200, 3, 0, 1}, {[]impl.Support{station(0, 7), station(2, 9)}, 1, 1, 1, 1}, {[]impl.Support{station(0, 7), station(2, 9)}, 2, 1, 1, 1},
		{[]impl.Support{station(0, 7), station(2, 9)}, 3, 1, 1, 2}, {[]impl.Support{station(0, 7), station(2, 9)}, 1, 1, 100, 1}, {[]impl.Support{station(0, 7), station(2, 9)}, 200, 1, 1, 100},
		{[]impl.Support{station(0, 7), station(2000, 9)}, 20, 1000, 100, 100000}, {[]impl.Support{station(0, 7), station(2000, 9)}, 200, 1000, 100, 0}, {[]impl.Support{station(0, 7), station(2001, 9)}, 20, 1000, 100, 0},
		{exampleLine(), 50, 150, 0, 0}, {exampleLine(), 1, 1, 0, 0}, {[]impl.Support{station(0, 7), station(2, 9)}, 1, 1, 0, 0}, {exampleLine(), 50, 150, 5, 0}, {exampleLine(), 50, 150, 6, 93750},
		{[]impl.Support{station(0, 7), station(3000, 9)}, 200, 1500, 100, 0}, {[]impl.Support{station(0, 7), station(3000, 9)}, 1, 1500, 12, 93750}, {[]impl.Support{station(0, 7), station(3000, 9)}, 1, 1500, 11, 0},
		{[]impl.Support{station(0, 7), station(572, 9)}, 3, 163, 1, 0}, {[]impl.Support{station(0, 7), station(650, 9)}, 2, 250, 1, 100000},
	}
	for _, c := range cases {
		if pull, ok := impl.PullFor(c.line, c.weight, c.place, c.sag); ok != (c.wants != 0) || pull != c.wants {
			t.Errorf("PullFor(%v, %d, %d, %d) = %d, %v, not %d", c.line, c.weight, c.place, c.sag, pull, ok, c.wants)
		}
	}
}

// TestPullForIsTheSmallestPull expects that a Rope with this Pull hangs low enough and that one
// with a Pull less does not, or, if there is none, that the greatest Pull is too small.
func TestPullForIsTheSmallestPull(t *testing.T) {
	found, failed := 0, 0
	for _, line := range sagLines() {
		for _, place := range placesToTry(line) {
			for _, weight := range []int{1, 2, 50, 199, 200} {
				for _, sag := range []int{0, 1, 2, 7, 99, 100} {
					wanted := ratioOf(1, sag)
					pull, ok := impl.PullFor(line, weight, place, sag)
					if !ok {
						failed++
						if pull != 0 || sagOf(line, rope(weight, impl.MaxPull), place, 0).Cmp(wanted) <= 0 {
							t.Fatalf("PullFor(%v, %d, %d, %d) = %d, %v", line, weight, place, sag, pull, ok)
						}
						continue
					}
					found++
					if !impl.IsRope(rope(weight, pull)) || sagOf(line, rope(weight, pull), place, 0).Cmp(wanted) > 0 {
						t.Fatalf("PullFor(%v, %d, %d, %d) = %d, which is too small", line, weight, place, sag, pull)
					}
					if pull > 1 && sagOf(line, rope(weight, pull-1), place, 0).Cmp(wanted) <= 0 {
						t.Fatalf("PullFor(%v, %d, %d, %d) = %d, which is too large", line, weight, place, sag, pull)
					}
				}
			}
		}
	}
	if found < 1000 || failed < 1000 {
		t.Errorf("%d found and %d failed", found, failed)
	}
}

func TestPullForFails(t *testing.T) {
	check := func(line []impl.Support, weight, place, sag int) {
		t.Helper()
		if pull, ok := impl.PullFor(line, weight, place, sag); ok || pull != 0 {
			t.Errorf("PullFor(%.300s, %d, %d, %d) = %d, %v", fmt.Sprint(line), weight, place, sag, pull, ok)
		}
	}
	for _, line := range invalidLines() {
		check(line, 50, 0, 10)
		check(line, 50, 3, 10)
	}
	for _, place := range placesOutside(exampleLine()) {
		check(exampleLine(), 50, place, 10)
	}
	for _, place := range []int{0, 150, 300} {
		for _, weight := range append(extremes(), 0, 201) {
			check(exampleLine(), weight, place, 10)
		}
		for _, sag := range append(extremes(), 101) {
			check(exampleLine(), 50, place, sag)
		}
	}
}

func TestTowerAngleValues(t *testing.T) {
	valley := []impl.Support{station(0, 1000), tower(100, 0), station(200, 1000)}
	gentle := []impl.Support{station(0, 50), station(100, 0), station(200, 50)}
	cases := []struct {
		line              []impl.Support
		r                 impl.Rope
		support, num, den int
	}{
		{exampleLine(), rope(50, 10000), 1, 5, 2}, {valley, rope(1, 100000), 1, -19999, 1000}, {valley, rope(200, 1), 1, 19980, 1},
		{gentle, rope(1, 100), 1, 0, 1}, {gentle, rope(1, 101), 1, -1, 101}, {gentle, rope(1, 99), 1, 1, 99},
		{shortSpans(), rope(1, 1), 1, -3, 1}, {shortSpans(), rope(1, 1), 2, 14, 1}, {shortSpans(), rope(1, 1), 3, -13, 1}, {shortSpans(), rope(3, 7), 1, -25, 7},
		{longestLine(), rope(200, 100000), 1, -3999998, 1000},
		{[]impl.Support{station(0, 0), tower(1499, 2000), station(2998, 1)}, rope(199, 99991), 1, 3999*199982 + 199*2998*1499, 1499 * 199982},
		{[]impl.Support{station(0, 0), tower(1499, 2000), station(3000, 1)}, rope(1, 1), 1, 2000*1501*2 + 1999*1499*2 + 3000*1499*1501, 1499 * 1501 * 2},
	}
	for _, c := range cases {
		want := ratioOf(c.den, c.num)
		if num, den, ok := impl.TowerAngle(c.line, c.r, c.support); !ok || !isFraction(num, den, want) {
			t.Errorf("TowerAngle(%v, %v, %d) = %d/%d, %v, not %v", c.line, c.r, c.support, num, den, ok, want)
		}
	}
}

// ropeSlopes returns the slopes of the parabola of a span at its beginning and at its end. They
// follow from the heights of three of its places: the beginning, the middle and the end.
func ropeSlopes(from, to impl.Support, r impl.Rope) (*big.Rat, *big.Rat) {
	length := to.At - from.At
	middle := ratioOf(2, from.Height+to.Height)
	middle.Sub(middle, ratioOf(8*r.Pull, r.Weight, length, length))
	middle.Mul(middle, ratioOf(length, 4))
	begins := ratioOf(length, -3*from.Height-to.Height)
	ends := ratioOf(length, from.Height+3*to.Height)
	return begins.Add(begins, middle), ends.Sub(ends, middle)
}

func TestTowerAngleOfEverySupport(t *testing.T) {
	inner := 0
	for _, line := range validLines() {
		for _, r := range []impl.Rope{rope(50, 10000), rope(200, 1), rope(199, 99991)} {
			for support := -1; support <= len(line); support++ {
				num, den, ok := impl.TowerAngle(line, r, support)
				if support <= 0 || support >= len(line)-1 {
					if ok || num != 0 || den != 0 {
						t.Fatalf("TowerAngle(%v, %v, %d) = %d/%d, %v", line, r, support, num, den, ok)
					}
					continue
				}
				_, arrives := ropeSlopes(line[support-1], line[support], r)
				leaves, _ := ropeSlopes(line[support], line[support+1], r)
				want := arrives.Sub(arrives, leaves)
				if !ok || !isFraction(num, den, want) {
					t.Fatalf("TowerAngle(%v, %v, %d) = %d/%d, %v, not %v", line, r, support, num, den, ok, want)
				}
				inner++
			}
		}
	}
	if inner < 1000 {
		t.Errorf("only %d Supports", inner)
	}
}

func TestTowerAngleFails(t *testing.T) {
	check := func(line []impl.Support, r impl.Rope, support int) {
		t.Helper()
		if num, den, ok := impl.TowerAngle(line, r, support); ok || num != 0 || den != 0 {
			t.Errorf("TowerAngle(%.300s, %v, %d) = %d/%d, %v", fmt.Sprint(line), r, support, num, den, ok)
		}
	}
	for _, line := range invalidLines() {
		check(line, rope(50, 10000), 1)
	}
	for _, r := range invalidRopes() {
		check(exampleLine(), r, 1)
	}
	for _, support := range append(extremes(), 0, 2, 3) {
		check(exampleLine(), rope(50, 10000), support)
	}
	for support := -2; support < 4; support++ {
		check([]impl.Support{station(0, 7), station(1, 9)}, rope(50, 10000), support)
	}
}

// pullsToTry are ascending Pulls.
var pullsToTry = []int{1, 2, 3, 4, 9, 10, 11, 99, 720, 1000, 9999, 10000, 10001, 49999, 50000, 99991, 99999, impl.MaxPull}

// TestAGreaterPullNeverMakesASagGreater goes through ascending Pulls. Between the Supports, where
// there is a sag, every greater Pull makes it smaller.
func TestAGreaterPullNeverMakesASagGreater(t *testing.T) {
	sagged := 0
	for i, line := range sagLines() {
		weight := []int{1, 50, 200}[i%3]
		for _, place := range placesToTry(line) {
			for _, load := range []int{0, 1, 20000} {
				var before *big.Rat
				for _, pull := range pullsToTry {
					num, den, ok := impl.LoadedSag(line, rope(weight, pull), place, load)
					if load == 0 {
						num, den, ok = impl.SagAt(line, rope(weight, pull), place)
					}
					if !ok || den < 1 || num < 0 {
						t.Fatalf("the sag of %v with %d, %d at %d with %d is %d/%d, %v", line, weight, pull, place, load, num, den, ok)
					}
					sag := ratioOf(den, num)
					if before != nil && (sag.Cmp(before) > 0 || num != 0 && sag.Cmp(before) == 0) {
						t.Fatalf("the sag of %v with %d, %d at %d with %d is %v, and with a smaller Pull %v", line, weight, pull, place, load, sag, before)
					}
					if num != 0 {
						sagged++
					}
					before = sag
				}
			}
		}
	}
	if sagged < 10000 {
		t.Errorf("only %d sags", sagged)
	}
}

// TestAGreaterPullNeverMakesTheGreatestSagGreater expects in addition that the clearances do not
// become smaller, and that a smaller sag needs no smaller Pull.
func TestAGreaterPullNeverMakesTheGreatestSagGreater(t *testing.T) {
	for i, line := range sagLines() {
		weight := []int{1, 50, 200}[i%3]
		ground := groundBelow(line, i)
		var sagBefore, clearanceBefore *big.Rat
		for _, pull := range pullsToTry {
			place, num, den, ok := impl.GreatestSag(line, rope(weight, pull))
			low, lowDen, ok2 := impl.ClearanceAt(line, rope(weight, pull), ground, place)
			if !ok || !ok2 || den < 1 || lowDen < 1 {
				t.Fatalf("%v with %d, %d: the greatest sag is at %d, %d/%d, %v, the clearance there %d/%d, %v", line, weight, pull, place, num, den, ok, low, lowDen, ok2)
			}
			sag, clearance := ratioOf(den, num), ratioOf(lowDen, low)
			if sagBefore != nil && (sag.Cmp(sagBefore) > 0 || clearance.Cmp(clearanceBefore) < 0) {
				t.Fatalf("%v with %d, %d: sag %v, clearance %v, and with a smaller Pull %v, %v", line, weight, pull, sag, clearance, sagBefore, clearanceBefore)
			}
			sagBefore, clearanceBefore = sag, clearance
		}
		for _, place := range placesToTry(line) {
			before := impl.MaxPull + 1
			for sag := range 101 {
				pull, ok := impl.PullFor(line, weight, place, sag)
				if ok && pull > before || !ok && before <= impl.MaxPull {
					t.Fatalf("PullFor(%v, %d, %d, %d) = %d, %v, and with a smaller sag %d", line, weight, place, sag, pull, ok, before)
				}
				if ok {
					before = pull
				}
			}
		}
	}
}

// sagResults returns the results of all functions of the chapter as text. It fails the test if a
// result beside false is not zero, or if a valid line, Rope or ground is not needed.
func sagResults(t *testing.T, line []impl.Support, r impl.Rope, ground []impl.GroundPoint, n int) string {
	t.Helper()
	a, b, sagOk := impl.SagAt(line, r, n)
	c, d, loadedOk := impl.LoadedSag(line, r, n, n)
	e, f, g, greatestOk := impl.GreatestSag(line, r)
	h, i, clearOk := impl.ClearanceAt(line, r, ground, n)
	j, k, l, lowestOk := impl.LowestClearance(line, r, ground)
	m, pullOk := impl.PullFor(line, r.Weight, n, n)
	o, p, angleOk := impl.TowerAngle(line, r, n)
	hangs := impl.IsLine(line) && impl.IsRope(r)
	above := impl.IsGround(line, ground) && hangs
	occurs := n >= 0 && hangs && n <= line[len(line)-1].At
	if sagOk != occurs || loadedOk != (occurs && n <= 20000) || greatestOk != hangs || clearOk != (above && occurs) || lowestOk != above || pullOk && !impl.IsLine(line) || angleOk && !hangs {
		t.Fatalf("%.300s, %v, %.300s, %d: a function succeeds or fails", fmt.Sprint(line), r, fmt.Sprint(ground), n)
	}
	if !sagOk && a|b != 0 || !loadedOk && c|d != 0 || !greatestOk && e|f|g != 0 || !clearOk && h|i != 0 || !lowestOk && j|k|l != 0 || !pullOk && m != 0 || !angleOk && o|p != 0 {
		t.Fatalf("%.300s, %v, %.300s, %d: a result beside false is not zero", fmt.Sprint(line), r, fmt.Sprint(ground), n)
	}
	return fmt.Sprint(hangs, above, occurs, a, b, c, d, e, f, g, h, i, j, k, l, m, o, p, pullOk, angleOk)
}

// TestSagReturnsForAllArguments gives valid and invalid arguments to every function of the
// chapter, as parts of longer lists, and expects that nothing in these lists changes, that what
// stands behind them does not count, and that a second call returns the same.
func TestSagReturnsForAllArguments(t *testing.T) {
	behind := []impl.Support{station(3, 8), tower(-1, 9999), station(math.MaxInt, math.MinInt)}
	deeper := []impl.GroundPoint{point(900, 5), point(3000, 0), point(math.MinInt, math.MaxInt)}
	check := func(line []impl.Support, r impl.Rope, ground []impl.GroundPoint) {
		memory := append(slices.Clone(line), behind...)
		below := append(slices.Clone(ground), deeper...)
		before, belowBefore := slices.Clone(memory), slices.Clone(below)
		for _, n := range append(extremes(), 0, 1, 2, 100, 300, 3000, 20001) {
			first := sagResults(t, slices.Clone(line), r, slices.Clone(ground), n)
			if second := sagResults(t, memory[:len(line)], r, below[:len(ground)], n); second != first {
				t.Fatalf("%.300s and then %.300s", first, second)
			}
		}
		if !slices.Equal(memory, before) || !slices.Equal(below, belowBefore) {
			t.Fatalf("the argument %.300s or %.300s is changed", fmt.Sprint(line), fmt.Sprint(ground))
		}
	}
	short := [][]impl.Support{exampleLine(), shortSpans(), {station(0, 7), tower(4, 7), station(9, 9)}}
	for i, line := range append(invalidLines(), short...) {
		for _, r := range append(invalidRopes(), rope(50, 10000), rope(200, 1)) {
			check(line, r, exampleGround())
			check(line, r, []impl.GroundPoint{point(0, i), point(5, 5)})
		}
	}
	for _, line := range short {
		for _, ground := range append(invalidGrounds(), groundBelow(line, 5), groundBelow(line, 6)) {
			check(line, rope(50, 10000), ground)
			check(line, rope(0, 10000), ground)
		}
	}
	check(longestLine(), rope(200, 99991), groundBelow(longestLine(), 9))
}
