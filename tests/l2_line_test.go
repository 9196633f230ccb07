package tests

import (
	"fmt"
	"math"
	"math/big"
	"slices"
	"strings"
	"testing"

	"loop.example/g00935/impl"
)

func station(at, height int) impl.Support {
	return impl.Support{At: at, Height: height, Station: true}
}

func tower(at, height int) impl.Support {
	return impl.Support{At: at, Height: height}
}

// exampleLine is the line of the document's example.
func exampleLine() []impl.Support {
	return []impl.Support{station(0, 1200), tower(300, 1350), station(900, 1500)}
}

// longestLine has as many Supports as a line can have, and meets every limit of its numbers.
func longestLine() []impl.Support {
	return []impl.Support{
		station(0, impl.MaxHeight), tower(1, 0), tower(2, 2000), station(7, 1999), tower(700, 1), station(701, 3),
		tower(2999, 0), station(impl.MaxPlace, impl.MaxHeight),
	}
}

// somePlaces are the places of the Supports of smallLines behind the first one.
var somePlaces = [][]int{{1}, {7}, {2, 3}, {3, 9}, {4, 6, 9}, {1, 2, 3000}, {1500, 2999, 3000}}

// smallLines returns lines of 2..4 Supports with many Heights, and with every choice of Stations.
func smallLines() [][]impl.Support {
	heights := []int{0, 1, 3, 4, 9, 2000}
	lines := [][]impl.Support{}
	for _, places := range somePlaces {
		grown := [][]impl.Support{}
		for _, h := range heights {
			grown = append(grown, []impl.Support{station(0, h)})
		}
		for i, place := range places {
			next := [][]impl.Support{}
			for _, line := range grown {
				for _, h := range heights {
					next = append(next, append(slices.Clone(line), station(place, h)))
					if i < len(places)-1 {
						next = append(next, append(slices.Clone(line), tower(place, h)))
					}
				}
			}
			grown = next
		}
		lines = append(lines, grown...)
	}
	return lines
}

// validLines returns lines of all numbers of Supports.
func validLines() [][]impl.Support {
	lines := append(smallLines(), exampleLine(), longestLine())
	for seed := range 300 {
		line := []impl.Support{}
		count := 2 + seed%(impl.MaxSupports-1)
		place := 0
		for i := range count {
			height := (seed*seed*31 + i*i*977 + i*seed*13) % (impl.MaxHeight + 1)
			ends := i == 0 || i == count-1
			line = append(line, impl.Support{At: place, Height: height, Station: ends || (seed+i)%3 == 0})
			place += 1 + (seed*17+i*53)%(impl.MaxPlace/impl.MaxSupports)
		}
		lines = append(lines, line)
	}
	return lines
}

// invalidLines returns lists that break one rule each, as far as possible.
func invalidLines() [][]impl.Support {
	tooMany := append(longestLine()[:7], tower(2999, 0), station(3000, 0))
	tooMany[6].At = 2998
	lines := [][]impl.Support{
		nil, {}, {station(0, 0)}, {tower(0, 0)}, tooMany,
		{tower(0, 1), station(5, 2)}, {station(0, 1), tower(5, 2)}, {tower(0, 1), tower(5, 2)},
		{tower(0, 1), station(3, 1), station(5, 2)}, {station(0, 1), station(3, 1), tower(5, 2)},
		{station(1, 1), station(5, 2)}, {station(-1, 1), station(5, 2)}, {station(-5, 1), station(0, 2)}, {station(-5, 1), tower(0, 1), station(5, 2)},
		{station(0, 1), station(0, 2)}, {station(0, 1), station(-1, 2)}, {station(0, 1), tower(5, 1), station(5, 2)},
		{station(0, 1), tower(0, 1), station(5, 2)}, {station(0, 1), tower(6, 1), station(5, 2)}, {station(0, 1), tower(5, 1), tower(4, 1), station(6, 2)},
		{station(0, 1), station(3001, 2)}, {station(0, 1), tower(3001, 1), station(3002, 2)},
		{station(0, -1), station(5, 2)}, {station(0, 1), station(5, -1)}, {station(0, 1), tower(3, -1), station(5, 2)},
		{station(0, 2001), station(5, 2)}, {station(0, 1), station(5, 2001)}, {station(0, 1), tower(3, 2001), station(5, 2)},
	}
	for _, n := range []int{math.MinInt, math.MinInt + 1, -3000, math.MaxInt - 1, math.MaxInt} {
		lines = append(lines,
			[]impl.Support{station(n, 0), station(5, 0)}, []impl.Support{station(0, 0), station(n, 0)},
			[]impl.Support{station(0, n), station(5, 0)}, []impl.Support{station(0, 0), station(5, n)},
			[]impl.Support{station(0, 0), tower(n, n), station(5, 0)}, []impl.Support{station(n, n), station(n, n)},
			[]impl.Support{station(0, 0), tower(n, 0), tower(-n, 0), station(5, 0)})
	}
	return append(lines, make([]impl.Support, 2), make([]impl.Support, 100000))
}

func TestIsLineAcceptsUpToTheLimits(t *testing.T) {
	limits := [][]impl.Support{
		exampleLine(), longestLine(),
		{station(0, 0), station(1, 0)}, {station(0, impl.MaxHeight), station(impl.MaxPlace, impl.MaxHeight)},
		{station(0, 5), station(1, 5), station(2, 5)}, {station(0, 9), tower(1, 0), station(2, 9)},
	}
	for _, line := range append(limits, validLines()...) {
		if !impl.IsLine(line) {
			t.Errorf("IsLine(%v) is false", line)
		}
	}
	for _, line := range invalidLines() {
		if impl.IsLine(line) {
			t.Errorf("IsLine(%.300s) is true", fmt.Sprint(line))
		}
	}
}

func TestLinesOfTheExample(t *testing.T) {
	line := exampleLine()
	if l, ok := impl.SpanLengths(line); !ok || !slices.Equal(l, []int{300, 600}) {
		t.Errorf("SpanLengths = %v, %v", l, ok)
	}
	if l, ok := impl.StationsOf(line); !ok || !slices.Equal(l, []int{0, 2}) {
		t.Errorf("StationsOf = %v, %v", l, ok)
	}
	if i, ok := impl.SteepestSpan(line); !ok || i != 0 {
		t.Errorf("SteepestSpan = %d, %v", i, ok)
	}
	if up, down, ok := impl.ClimbOf(line); !ok || up != 300 || down != 0 {
		t.Errorf("ClimbOf = %d, %d, %v", up, down, ok)
	}
	reversed := []impl.Support{station(0, 1500), tower(600, 1350), station(900, 1200)}
	if r, ok := impl.ReverseLine(line); !ok || !slices.Equal(r, reversed) {
		t.Errorf("ReverseLine = %v, %v", r, ok)
	}
	if s, ok := impl.LineText(line); !ok || s != "S0:1200 T300:1350 S900:1500" {
		t.Errorf("LineText = %q, %v", s, ok)
	}
	if l, ok := impl.ParseLine("S0:1200 T300:1350 S900:1500"); !ok || !slices.Equal(l, line) {
		t.Errorf("ParseLine = %v, %v", l, ok)
	}
}

func TestSpanLengthsAddUpToTheLine(t *testing.T) {
	for _, line := range validLines() {
		lengths, ok := impl.SpanLengths(line)
		if !ok || len(lengths) != len(line)-1 {
			t.Fatalf("SpanLengths(%v) = %v, %v", line, lengths, ok)
		}
		place := 0
		for i, length := range lengths {
			if place += length; place != line[i+1].At {
				t.Fatalf("SpanLengths(%v) = %v", line, lengths)
			}
		}
	}
}

// TestSpanAtASupport takes each Support and the places beside it: a Support belongs to the span
// that ends there, and the first one to the span that begins there.
func TestSpanAtASupport(t *testing.T) {
	for _, line := range validLines() {
		for i, s := range line {
			if got, ok := impl.SpanAt(line, s.At); !ok || got != max(i-1, 0) {
				t.Fatalf("SpanAt(%v, %d) = %d, %v", line, s.At, got, ok)
			}
			inside := i < len(line)-1
			if got, ok := impl.SpanAt(line, s.At+1); ok != inside || inside && got != i || !ok && got != 0 {
				t.Fatalf("SpanAt(%v, %d) = %d, %v", line, s.At+1, got, ok)
			}
		}
		for _, place := range []int{-1, math.MinInt, math.MaxInt, line[len(line)-1].At + 1, -line[len(line)-1].At} {
			if got, ok := impl.SpanAt(line, place); ok || got != 0 {
				t.Fatalf("SpanAt(%v, %d) = %d, %v", line, place, got, ok)
			}
		}
	}
}

func TestSpanAtEveryPlace(t *testing.T) {
	line := longestLine()
	for place := -5; place <= impl.MaxPlace+5; place++ {
		want, occurs := 0, false
		for i := len(line) - 2; i >= 0; i-- {
			if line[i].At <= place && place <= line[i+1].At {
				want, occurs = i, true
			}
		}
		if got, ok := impl.SpanAt(line, place); ok != occurs || got != want {
			t.Errorf("SpanAt(%d) = %d, %v, not %d, %v", place, got, ok, want, occurs)
		}
	}
}

func TestChordAtValues(t *testing.T) {
	level := []impl.Support{station(0, 0), tower(10, 0), tower(16, 4), station(25, 1)}
	cases := []struct {
		line            []impl.Support
		place, num, den int
	}{
		{exampleLine(), 0, 1200, 1}, {exampleLine(), 1, 2401, 2}, {exampleLine(), 150, 1275, 1}, {exampleLine(), 300, 1350, 1},
		{exampleLine(), 301, 5401, 4}, {exampleLine(), 500, 1400, 1}, {exampleLine(), 900, 1500, 1},
		{level, 0, 0, 1}, {level, 3, 0, 1}, {level, 10, 0, 1}, {level, 11, 2, 3}, {level, 13, 2, 1},
		{level, 16, 4, 1}, {level, 17, 11, 3}, {level, 22, 2, 1}, {level, 24, 4, 3}, {level, 25, 1, 1},
		{[]impl.Support{station(0, 0), station(3000, 2000)}, 1, 2, 3},
		{[]impl.Support{station(0, 2000), station(2999, 0)}, 2998, 2000, 2999},
		{[]impl.Support{station(0, 0), station(6, 2)}, 0, 0, 1}, {[]impl.Support{station(0, 2), station(6, 0)}, 6, 0, 1},
	}
	for _, c := range cases {
		if num, den, ok := impl.ChordAt(c.line, c.place); !ok || num != c.num || den != c.den {
			t.Errorf("ChordAt(%v, %d) = %d/%d, %v, not %d/%d", c.line, c.place, num, den, ok, c.num, c.den)
		}
	}
}

// chordOf returns the height of the chord as the mean of the Heights at both ends of its span,
// each weighed with the distance from the other end.
func chordOf(line []impl.Support, place int) *big.Rat {
	for i := range len(line) - 1 {
		a, b := line[i], line[i+1]
		if a.At <= place && place <= b.At {
			length := big.NewRat(int64(b.At-a.At), 1)
			low := big.NewRat(int64(a.Height*(b.At-place)), 1)
			high := big.NewRat(int64(b.Height*(place-a.At)), 1)
			return low.Quo(low.Add(low, high), length)
		}
	}
	return nil
}

func TestChordAtEveryPlace(t *testing.T) {
	for n, line := range validLines() {
		end := line[len(line)-1].At
		places := []int{-1, 0, 1, 2, 3, 5, 7, end / 2, end - 1, end, end + 1}
		for _, s := range line {
			places = append(places, s.At-1, s.At, s.At+1)
		}
		for k := 0; n%50 == 0 && k <= end; k++ {
			places = append(places, k)
		}
		for _, place := range places {
			num, den, ok := impl.ChordAt(line, place)
			want := chordOf(line, place)
			if want == nil {
				if ok || num != 0 || den != 0 {
					t.Fatalf("ChordAt(%v, %d) = %d/%d, %v", line, place, num, den, ok)
				}
				continue
			}
			if !ok || want.Num().Int64() != int64(num) || want.Denom().Int64() != int64(den) {
				t.Fatalf("ChordAt(%v, %d) = %d/%d, %v, not %v", line, place, num, den, ok, want)
			}
		}
	}
}

func TestStationsOfLines(t *testing.T) {
	for _, line := range validLines() {
		stations, ok := impl.StationsOf(line)
		if !ok || !slices.IsSorted(stations) {
			t.Fatalf("StationsOf(%v) = %v, %v", line, stations, ok)
		}
		found := 0
		for i, s := range line {
			if slices.Contains(stations, i) != s.Station {
				t.Fatalf("StationsOf(%v) = %v", line, stations)
			}
			if s.Station {
				found++
			}
		}
		if found != len(stations) {
			t.Fatalf("StationsOf(%v) = %v", line, stations)
		}
	}
}

func TestSteepestSpanValues(t *testing.T) {
	cases := []struct {
		line []impl.Support
		want int
	}{
		{[]impl.Support{station(0, 7), station(5, 7)}, 0},
		{[]impl.Support{station(0, 7), tower(5, 7), station(6, 7)}, 0},
		{[]impl.Support{station(0, 7), tower(5, 7), station(3000, 8)}, 1},
		{[]impl.Support{station(0, 10), tower(5, 20), station(10, 5)}, 1},
		{[]impl.Support{station(0, 10), tower(5, 0), station(10, 9)}, 0},
		{[]impl.Support{station(0, 10), tower(5, 20), station(10, 10)}, 0},
		{[]impl.Support{station(0, 10), tower(5, 0), station(10, 10)}, 0},
		{[]impl.Support{station(0, 0), tower(1, 2), tower(4, 8), station(6, 4)}, 0},
		{[]impl.Support{station(0, 0), tower(9, 1), tower(12, 3), tower(18, 7), station(21, 5)}, 1},
		{[]impl.Support{station(0, 0), tower(2000, 2000), station(2010, 1989)}, 1},
		{[]impl.Support{station(0, 0), tower(1499, 1000), station(2999, 2000)}, 0},
		{[]impl.Support{station(0, 0), tower(1500, 1000), station(2999, 2000)}, 1},
		{[]impl.Support{station(0, 0), tower(3, 2), tower(5, 1), tower(6, 0), station(7, 1)}, 2},
		{longestLine(), 0},
	}
	for _, c := range cases {
		if i, ok := impl.SteepestSpan(c.line); !ok || i != c.want {
			t.Errorf("SteepestSpan(%v) = %d, %v, not %d", c.line, i, ok, c.want)
		}
	}
}

func TestSteepestSpanIsTheFirstOfTheSteepest(t *testing.T) {
	for _, line := range validLines() {
		want, greatest := 0, big.NewRat(-1, 1)
		for i := range len(line) - 1 {
			rise := int64(line[i+1].Height - line[i].Height)
			slope := big.NewRat(rise, int64(line[i+1].At-line[i].At))
			if slope.Abs(slope); slope.Cmp(greatest) > 0 {
				want, greatest = i, slope
			}
		}
		if i, ok := impl.SteepestSpan(line); !ok || i != want {
			t.Fatalf("SteepestSpan(%v) = %d, %v, not %d", line, i, ok, want)
		}
	}
}

func TestClimbOfValues(t *testing.T) {
	cases := []struct {
		line     []impl.Support
		up, down int
	}{
		{[]impl.Support{station(0, 7), station(5, 7)}, 0, 0},
		{[]impl.Support{station(0, 7), station(5, 9)}, 2, 0},
		{[]impl.Support{station(0, 9), station(5, 7)}, 0, 2},
		{[]impl.Support{station(0, 5), tower(1, 9), tower(2, 9), tower(3, 2), station(4, 3)}, 5, 7},
		{longestLine(), 2000 + 2 + 2000, 2000 + 1 + 1998 + 3},
	}
	for _, c := range cases {
		if up, down, ok := impl.ClimbOf(c.line); !ok || up != c.up || down != c.down {
			t.Errorf("ClimbOf(%v) = %d, %d, %v, not %d, %d", c.line, up, down, ok, c.up, c.down)
		}
	}
}

func TestALineThatIsReversedTwiceIsAsBefore(t *testing.T) {
	for _, line := range validLines() {
		reversed, ok := impl.ReverseLine(line)
		if !ok || !impl.IsLine(reversed) {
			t.Fatalf("ReverseLine(%v) = %v, %v", line, reversed, ok)
		}
		again, ok := impl.ReverseLine(reversed)
		if !ok || !slices.Equal(again, line) {
			t.Fatalf("%v is reversed to %v and then to %v, %v", line, reversed, again, ok)
		}
	}
}

// TestAReversedLineIsSeenFromItsOtherEnd compares a line and its reverse, so that one that is
// returned as it is, or of which only a part is turned, does not pass.
func TestAReversedLineIsSeenFromItsOtherEnd(t *testing.T) {
	for _, line := range validLines() {
		reversed, ok := impl.ReverseLine(line)
		if !ok || len(reversed) != len(line) {
			t.Fatalf("ReverseLine(%v) = %v, %v", line, reversed, ok)
		}
		end := line[len(line)-1].At
		for i, s := range line {
			want := impl.Support{At: end - s.At, Height: s.Height, Station: s.Station}
			if reversed[len(line)-1-i] != want {
				t.Fatalf("ReverseLine(%v) = %v", line, reversed)
			}
		}
		up, down, _ := impl.ClimbOf(line)
		if down2, up2, ok := impl.ClimbOf(reversed); !ok || up2 != up || down2 != down {
			t.Fatalf("%v goes %d up and %d down, and its reverse %d and %d", line, up, down, down2, up2)
		}
	}
}

func TestLineTextAndParseLineRoundTrip(t *testing.T) {
	seen := map[string]bool{}
	for _, line := range validLines() {
		parts := []string{}
		for _, s := range line {
			kind := 'T'
			if s.Station {
				kind = 'S'
			}
			parts = append(parts, fmt.Sprintf("%c%d:%d", kind, s.At, s.Height))
		}
		text, ok := impl.LineText(line)
		if !ok || text != strings.Join(parts, " ") {
			t.Fatalf("LineText(%v) = %q, %v", line, text, ok)
		}
		if parsed, ok := impl.ParseLine(text); !ok || !slices.Equal(parsed, line) {
			t.Fatalf("ParseLine(%q) = %v, %v", text, parsed, ok)
		}
		seen[text] = true
	}
	if text, ok := impl.LineText(longestLine()); !ok || text != "S0:2000 T1:0 T2:2000 S7:1999 T700:1 S701:3 T2999:0 S3000:2000" {
		t.Errorf("LineText of the longest line = %q, %v", text, ok)
	}
	if len(seen) < 100 {
		t.Errorf("only %d texts", len(seen))
	}
}

func TestParseLineRejects(t *testing.T) {
	others := []string{
		"", " ", "S", "S0", "S0:", "S:1", "S:", ":", "0:1", "S0:1", "S0:1 ", "S0:1 S", "S0:1 S5", "S0:1 S5:", "S0:1 S:2", "S0:1 :2", "S0:1 5:2",
		"S0:1 T5:2", "T0:1 S5:2", "T0:1 T5:2", "S0:1 S0:2", "S1:1 S5:2", "S0:1 S3001:2", "S0:1 S5:2001", "S0:2001 S5:2", "S0:1 T6:1 S5:2",
		"S00:1 S5:2", "S0:01 S5:2", "S0:1 S05:2", "S0:1 S5:02", "S-0:1 S5:2", "S0:-0 S5:2", "S+0:1 S5:2", "S0:+1 S5:2", "S0:1 S+5:2",
		"S0:-1 S5:2", "S-1:1 S5:2", "S0:1 S5:-2", "S0:1 S-5:2", "S0:1 S1000000:2", "S0:1 S18446744073709551621:2",
		" S0:1 S5:2", "S0:1 S5:2 ", "S0:1  S5:2", "S0:1\tS5:2", "S0:1\nS5:2", "S0:1 S5:2\n", "S0:1,S5:2", "S0:1S5:2", "S 0:1 S5:2", "S0: 1 S5:2",
		"s0:1 S5:2", "S0:1 t3:1 S5:2", "S0:1 X3:1 S5:2", "SS0:1 S5:2", "ST0:1 S5:2", "S0::1 S5:2", "S0:1: S5:2", "S0:1:1 S5:2", "S0;1 S5:2",
		"S0:1 S5:2x", "S0:1 S5:2.0", "S0:1 S0x5:2", "S0:1 S5:1_0", "S0:1 \x00S5:2", "S0:1 S5:2\x00", "S0:1 S5:\xff", "S0:1 S\u0665:2", "\uff330:1 S5:2",
		"S0:1 T1:1 T2:1 T3:1 T4:1 T5:1 T6:1 T7:1 S8:1", strings.Repeat("S0:1 ", 1000), strings.Repeat(" ", 4000),
		"S0:1 S5:2" + strings.Repeat(" ", 5000), strings.Repeat("S", 5000), strings.Repeat("S0:1 ", 100000), "S" + strings.Repeat("0", 5000) + ":1 S5:2",
	}
	for _, s := range others {
		if line, ok := impl.ParseLine(s); ok || len(line) != 0 {
			t.Errorf("ParseLine(%.60q) = %.200s, %v", s, fmt.Sprint(line), ok)
		}
	}
}

func TestParseLineAcceptsOnlyWhatLineTextWrites(t *testing.T) {
	for _, sealed := range []string{"S0:1 S5:20", "S0:0 T1:10 S20:3", "S0:2000 S3000:2000"} {
		for i := range len(sealed) {
			for c := range 256 {
				texts := []string{
					sealed[:i] + string([]byte{byte(c)}) + sealed[i+1:],
					sealed[:i] + string([]byte{byte(c)}) + sealed[i:],
					sealed[:i] + sealed[i+1:],
				}
				for _, text := range texts {
					line, ok := impl.ParseLine(text)
					if !ok && len(line) != 0 {
						t.Fatalf("ParseLine(%q) = %v, %v", text, line, ok)
					}
					if again, fine := impl.LineText(line); ok && (!fine || again != text) {
						t.Fatalf("ParseLine(%q) = %v, whose text is %q, %v", text, line, again, fine)
					}
				}
			}
		}
	}
}

// lineResults returns the results of all functions of the chapter for a line as text. It fails
// the test if some function succeeds for an invalid line, fails for a valid one, or returns a
// result beside false that is not zero.
func lineResults(t *testing.T, line []impl.Support, place int) string {
	t.Helper()
	valid := impl.IsLine(line)
	lengths, lengthsOk := impl.SpanLengths(line)
	span, spanOk := impl.SpanAt(line, place)
	num, den, chordOk := impl.ChordAt(line, place)
	stations, stationsOk := impl.StationsOf(line)
	steepest, steepestOk := impl.SteepestSpan(line)
	up, down, climbOk := impl.ClimbOf(line)
	reversed, reversedOk := impl.ReverseLine(line)
	text, textOk := impl.LineText(line)
	for _, ok := range []bool{lengthsOk, stationsOk, steepestOk, climbOk, reversedOk, textOk} {
		if ok != valid {
			t.Fatalf("%.300s: valid is %v, and a function returns %v", fmt.Sprint(line), valid, ok)
		}
	}
	if spanOk != chordOk || spanOk && !valid {
		t.Fatalf("%.300s at %d: SpanAt %v, ChordAt %v", fmt.Sprint(line), place, spanOk, chordOk)
	}
	zero := len(lengths) == 0 && len(stations) == 0 && steepest == 0 && up == 0 && down == 0 && len(reversed) == 0 && text == ""
	if !valid && !zero || !spanOk && (span != 0 || num != 0 || den != 0) {
		t.Fatalf("%.300s at %d: a result beside false is not zero", fmt.Sprint(line), place)
	}
	return fmt.Sprint(valid, lengths, span, num, den, stations, steepest, up, down, reversed, text, place)
}

// TestLinesReturnForAllArguments gives arbitrary arguments to every function of the chapter, as
// a part of a longer list, and expects that nothing in this list changes, that what stands
// behind the line does not count, and that a second call returns the same.
func TestLinesReturnForAllArguments(t *testing.T) {
	behind := []impl.Support{station(8, 8), tower(-1, 9999), station(math.MaxInt, math.MinInt)}
	for _, line := range append(invalidLines(), validLines()...) {
		memory := append(slices.Clone(line), behind...)
		before := slices.Clone(memory)
		for _, place := range []int{math.MinInt, -1, 0, 1, 5, 300, 3000, 3001, math.MaxInt} {
			first := lineResults(t, line, place)
			if second := lineResults(t, memory[:len(line)], place); second != first {
				t.Fatalf("%.300s and then %.300s", first, second)
			}
		}
		if !slices.Equal(memory, before) {
			t.Fatalf("the argument %.300s is changed", fmt.Sprint(line))
		}
	}
	for _, s := range append(wordsOver("ST0:5 ", 5), strings.Repeat("S0:1 ", 100000)) {
		if line, ok := impl.ParseLine(s); !ok && len(line) != 0 || ok && !impl.IsLine(line) {
			t.Fatalf("ParseLine(%.60q) = %v, %v", s, line, ok)
		}
	}
}

// TestLinesReturnNewMemory changes every result, and behind its length, and expects that neither
// the argument nor another result changes with it.
func TestLinesReturnNewMemory(t *testing.T) {
	line := exampleLine()
	reversed, _ := impl.ReverseLine(line)
	again, _ := impl.ReverseLine(line)
	back, _ := impl.ReverseLine(reversed)
	lengths, _ := impl.SpanLengths(line)
	stations, _ := impl.StationsOf(line)
	parsed, _ := impl.ParseLine("S0:1200 T300:1350 S900:1500")
	for _, list := range [][]impl.Support{reversed, parsed} {
		_ = append(list[:1], tower(1, 1), tower(2, 2), tower(3, 3))
		clear(list)
	}
	clear(lengths)
	clear(stations)
	if !slices.Equal(line, exampleLine()) || !slices.Equal(back, exampleLine()) || again[0] != station(0, 1500) || again[1] != tower(600, 1350) {
		t.Error("results share memory")
	}
	lengths2, _ := impl.SpanLengths(line)
	stations2, _ := impl.StationsOf(line)
	parsed2, _ := impl.ParseLine("S0:1200 T300:1350 S900:1500")
	if !slices.Equal(lengths2, []int{300, 600}) || !slices.Equal(stations2, []int{0, 2}) || !slices.Equal(parsed2, exampleLine()) {
		t.Error("a later result is changed")
	}
}
