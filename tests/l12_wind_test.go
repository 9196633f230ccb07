package tests

import (
	"fmt"
	"math"
	"slices"
	"testing"

	"loop.example/g00935/impl"
)

func windRule(slow, stop, below, hold int) impl.WindRule {
	return impl.WindRule{Slow: slow, Stop: stop, Below: below, Hold: hold}
}

func windState(level, calm int) impl.WindState {
	return impl.WindState{Level: level, Calm: calm}
}

// exampleRule counts votes below 8 as calm at WindSlow, and those below 16 at WindStop.
func exampleRule() impl.WindRule {
	return windRule(10, 18, 2, 2)
}

// windRules are rules that meet each limit of their numbers, and many between.
func windRules() []impl.WindRule {
	rules := []impl.WindRule{
		exampleRule(), windRule(2, 3, 1, 1), windRule(2, 3, 1, 10), windRule(2, 60, 1, 1), windRule(2, 60, 1, 10), windRule(59, 60, 1, 1), windRule(59, 60, 58, 1),
		windRule(59, 60, 58, 10), windRule(59, 60, 1, 10), windRule(30, 31, 29, 3), windRule(10, 40, 9, 4), windRule(20, 25, 8, 5),
	}
	for seed := range 60 {
		rules = append(rules, windRuleOf(seed))
	}
	return rules
}

// windRuleOf returns a rule whose limits are often close to each other, and whose Hold is often small.
func windRuleOf(seed int) impl.WindRule {
	next := numbers(seed)
	slow := 2 + next(58)
	stop := slow + 1 + []int{next(impl.MaxWind - slow), 0}[next(2)]
	below := 1 + []int{next(slow - 1), 0, slow - 2}[next(3)]
	return windRule(slow, stop, below, 1+[]int{next(10), next(3)}[next(2)])
}

// windStates returns all valid states with a rule.
func windStates(r impl.WindRule) []impl.WindState {
	states := []impl.WindState{{}}
	for calm := range r.Hold {
		states = append(states, windState(impl.WindSlow, calm), windState(impl.WindStop, calm))
	}
	return states
}

// windVotesOf returns votes close to the limits of a rule, many of them several times in a row.
func windVotesOf(r impl.WindRule, seed int) []int {
	next := numbers(seed)
	count := []int{next(8), next(51), 50}[next(3)]
	votes := []int{}
	for len(votes) < count {
		near := []int{r.Slow, r.Stop, r.Slow - r.Below, r.Stop - r.Below}[next(4)] - next(2)
		vote := []int{near, near, next(61), 0, 60}[next(5)]
		times := []int{1, 1 + next(r.Hold+1), r.Hold}[next(3)]
		votes = append(votes, slices.Repeat([]int{vote}, min(times, count-len(votes)))...)
	}
	return votes
}

// eachWindRun calls f with a rule, a state and votes, many times.
func eachWindRun(f func(r impl.WindRule, s impl.WindState, votes []int)) {
	for i, r := range windRules() {
		states := windStates(r)
		f(r, impl.WindState{}, nil)
		for seed := range 100 {
			f(r, states[seed%len(states)], windVotesOf(r, 1000*i+seed))
		}
	}
}

// windAfter finds the Levels after the votes, and the state at the end, without counting: it looks
// back whether the last votes, as many as Hold, were all calm and all came at the Level.
func windAfter(r impl.WindRule, s impl.WindState, votes []int) ([]int, impl.WindState) {
	// The calm votes that the state has counted stand before the others.
	history := append(make([]int, s.Calm), votes...)
	limits := map[int]int{impl.WindFree: 0, impl.WindSlow: r.Slow, impl.WindStop: r.Stop}
	level, entered := s.Level, 0
	calmSince := func(first, last int) bool {
		for i := first; i <= last; i++ {
			if history[i] >= limits[level]-r.Below {
				return false
			}
		}
		return true
	}
	levels := []int{}
	for i := s.Calm; i < len(history); i++ {
		first := i - r.Hold + 1
		switch {
		case history[i] >= r.Stop:
			level, entered = impl.WindStop, i+1
		case history[i] >= r.Slow && level == impl.WindFree:
			level, entered = impl.WindSlow, i+1
		case level > impl.WindFree && first >= entered && calmSince(first, i):
			level, entered = level-1, i+1
		}
		levels = append(levels, level)
	}
	calm := 0
	for level > impl.WindFree && len(history)-calm > entered && calmSince(len(history)-calm-1, len(history)-1) {
		calm++
	}
	return levels, windState(level, calm)
}

// invalidWindRules returns rules that break one rule each.
func invalidWindRules() []impl.WindRule {
	rules := []impl.WindRule{
		{}, windRule(10, 10, 2, 2), windRule(10, 9, 2, 2), windRule(5, 10, 5, 1), windRule(5, 10, 6, 1), windRule(2, 3, 2, 1), windRule(2, 2, 1, 1), windRule(1, 3, 1, 1), windRule(1, 3, 0, 1),
		windRule(60, 60, 1, 1), windRule(60, 61, 1, 1), windRule(59, 61, 1, 1), windRule(59, 60, 59, 1), windRule(18, 10, 2, 2), windRule(-5, 10, -7, 2), windRule(0, 10, 0, 2), windRule(math.MinInt, 10, 1, 1), windRule(math.MinInt, math.MinInt, 1, 1), windRule(math.MaxInt-1, math.MaxInt, 1, 1),
	}
	for i, wrong := range [][]int{{0, 1, 2, 18, 19}, {9, 10, 0, 61, 62}, {0, 10, 11}, {0, 11, 12}} {
		for _, n := range append(wrong, extremes()...) {
			r := exampleRule()
			*[]*int{&r.Slow, &r.Stop, &r.Below, &r.Hold}[i] = n
			rules = append(rules, r)
		}
	}
	return rules
}

// invalidWindStates returns states that are not valid with a rule.
func invalidWindStates(r impl.WindRule) []impl.WindState {
	states := []impl.WindState{windState(3, 0), windState(-2, 0), windState(4, 1), windState(impl.WindFree, 1), windState(impl.WindFree, r.Hold), windState(impl.WindFree, -2)}
	for _, level := range []int{impl.WindFree, impl.WindSlow, impl.WindStop} {
		for _, n := range append(extremes(), r.Hold, r.Hold+1, -2, 10) {
			states = append(states, windState(level, n))
		}
	}
	for _, n := range extremes() {
		states = append(states, windState(n, 0), windState(n, n))
	}
	return states
}

// wrongWinds are numbers that are neither a speed nor what a broken sensor tells.
func wrongWinds() []int {
	list := []int{-2, 61, 62, 100}
	for _, n := range extremes() {
		if n != -1 {
			list = append(list, n)
		}
	}
	return list
}

// invalidVotes returns lists that are no votes of at most 50 readings; no vote is that of a broken
// sensor.
func invalidVotes() [][]int {
	lists := [][]int{make([]int, 51), make([]int, 100000), slices.Repeat([]int{20}, 51)}
	for _, n := range append(wrongWinds(), -1) {
		lists = append(lists, []int{n}, []int{n, 5}, []int{5, n}, []int{60, 0, n, 0}, append(make([]int, 49), n))
	}
	return lists
}

// invalidSensors returns lists that are no sensors.
func invalidSensors() [][]int {
	lists := [][]int{nil, {}, make([]int, 6), {1, 2, 3, 4, 5, -1}, {-1, -1, -1, -1, -1, -1}, make([]int, 100000)}
	for _, n := range wrongWinds() {
		lists = append(lists, []int{n}, []int{n, 5}, []int{5, n, -1}, []int{-1, -1, n}, []int{5, 6, 7, 8, n}, []int{-1, -1, -1, n, -1})
	}
	return lists
}

// eachSensors calls f with every list of sensors that tell some speeds or are broken.
func eachSensors(f func(sensors []int)) {
	tells := []int{-1, 0, 1, 7, 30, 59, 60}
	lists := [][]int{{}}
	for range 5 {
		longer := [][]int{}
		for _, list := range lists {
			for _, n := range tells {
				longer = append(longer, append(slices.Clone(list), n))
				f(append(slices.Clone(list), n))
			}
		}
		lists = longer
	}
}

// isVote reports whether n is the vote of sensors: one of the speeds such that as many others are
// not greater as are not smaller, or one more.
func isVote(sensors []int, n int) bool {
	broken, smaller, equal, greater := 0, 0, 0, 0
	for _, speed := range sensors {
		switch {
		case speed == -1:
			broken++
		case speed < n:
			smaller++
		case speed == n:
			equal++
		default:
			greater++
		}
	}
	if broken > smaller+equal+greater {
		return n == impl.MaxWind
	}
	half := (smaller + equal + greater) / 2
	return equal > 0 && smaller <= half && smaller+equal > half
}

func TestWindConstants(t *testing.T) {
	if impl.MaxWind != 60 || impl.WindFree != 0 || impl.WindSlow != 1 || impl.WindStop != 2 {
		t.Errorf("MaxWind is %d, and the Levels are %d, %d, %d", impl.MaxWind, impl.WindFree, impl.WindSlow, impl.WindStop)
	}
}

func TestVoteOfValues(t *testing.T) {
	cases := []struct {
		sensors []int
		want    int
	}{
		{[]int{0}, 0}, {[]int{60}, 60}, {[]int{7}, 7}, {[]int{5, 9}, 9}, {[]int{9, 5}, 9}, {[]int{3, 9, 5}, 5}, {[]int{9, 9, 5}, 9}, {[]int{5, 9, 5}, 5}, {[]int{8, 2, 6, 4}, 6}, {[]int{1, 5, 4, 2, 3}, 3}, {[]int{60, 0, 0, 60, 1}, 1},
		// Exactly half of the sensors are broken, which is enough.
		{[]int{5, -1}, 5}, {[]int{-1, 5}, 5}, {[]int{0, -1}, 0}, {[]int{-1, 3, 7, -1}, 7}, {[]int{7, -1, -1, 3}, 7}, {[]int{-1, -1, 0, 0}, 0}, {[]int{-1, 0, -1, 60}, 60},
		// Fewer are.
		{[]int{5, -1, 12}, 12}, {[]int{12, 5, -1, 7}, 7}, {[]int{-1, 12, 5, -1, 7}, 7}, {[]int{-1, 12, 5, 6, 7}, 7}, {[]int{4, 12, 5, -1, 7}, 7},
		// More are.
		{[]int{-1}, 60}, {[]int{-1, -1}, 60}, {[]int{-1, -1, 5}, 60}, {[]int{0, -1, -1}, 60}, {[]int{-1, -1, -1, 0}, 60}, {[]int{-1, 3, -1, 4, -1}, 60}, {[]int{-1, -1, -1, -1, 0}, 60}, {[]int{-1, -1, -1, -1, -1}, 60},
	}
	for _, c := range cases {
		if n, ok := impl.VoteOf(c.sensors); !ok || n != c.want {
			t.Errorf("VoteOf(%v) = %d, %v, not %d", c.sensors, n, ok, c.want)
		}
	}
}

func TestVoteOfManySensors(t *testing.T) {
	worst, half, less := 0, 0, 0
	eachSensors(func(sensors []int) {
		n, ok := impl.VoteOf(sensors)
		if !ok || !isVote(sensors, n) {
			t.Fatalf("VoteOf(%v) = %d, %v", sensors, n, ok)
		}
		broken := 0
		for _, speed := range sensors {
			if speed == -1 {
				broken++
			}
		}
		switch working := len(sensors) - broken; {
		case broken > working:
			worst++
		case broken == working:
			half++
		default:
			less++
		}
	})
	if worst < 100 || half < 200 || less < 10000 {
		t.Errorf("only %d votes with too few sensors, %d with half of them and %d with more", worst, half, less)
	}
}

func TestVotesOfInvalidSensorsFail(t *testing.T) {
	for _, sensors := range invalidSensors() {
		if n, ok := impl.VoteOf(sensors); ok || n != 0 {
			t.Errorf("VoteOf(%.300s) = %d, %v", fmt.Sprint(sensors), n, ok)
		}
		for _, spread := range []int{0, 5, math.MaxInt} {
			if n, ok := impl.BrokenSensors(sensors, spread); ok || len(n) != 0 {
				t.Errorf("BrokenSensors(%.300s, %d) = %v, %v", fmt.Sprint(sensors), spread, n, ok)
			}
		}
	}
}

func TestIsWindRuleUpToTheLimits(t *testing.T) {
	for slow := -1; slow <= 62; slow++ {
		for stop := -1; stop <= 62; stop++ {
			for below := -1; below <= 62; below++ {
				for hold := -1; hold <= 12; hold++ {
					want := slow >= 2 && slow < stop && stop <= 60 && below >= 1 && below <= slow-1 && hold >= 1 && hold <= 10
					if r := windRule(slow, stop, below, hold); impl.IsWindRule(r) != want {
						t.Fatalf("%+v is valid: %v", r, !want)
					}
				}
			}
		}
	}
	for _, r := range windRules() {
		if !impl.IsWindRule(r) {
			t.Errorf("%+v is not valid", r)
		}
	}
	for _, r := range invalidWindRules() {
		if impl.IsWindRule(r) {
			t.Errorf("%+v is valid", r)
		}
	}
}

func TestNextWindValues(t *testing.T) {
	r, low, high := exampleRule(), windRule(2, 3, 1, 1), windRule(59, 60, 58, 10)
	cases := []struct {
		r           impl.WindRule
		level, calm int
		votes       []int
		want        impl.WindState
	}{
		{r, impl.WindFree, 0, []int{0, 7, 8, 9}, windState(impl.WindFree, 0)}, {r, impl.WindFree, 0, []int{10, 15, 16, 17}, windState(impl.WindSlow, 0)}, {r, impl.WindFree, 0, []int{18, 19, 60}, windState(impl.WindStop, 0)},
		{r, impl.WindSlow, 0, []int{0, 6, 7}, windState(impl.WindSlow, 1)}, {r, impl.WindSlow, 0, []int{8, 9, 10, 16, 17}, windState(impl.WindSlow, 0)}, {r, impl.WindSlow, 0, []int{18, 60}, windState(impl.WindStop, 0)},
		{r, impl.WindSlow, 1, []int{0, 6, 7}, windState(impl.WindFree, 0)}, {r, impl.WindSlow, 1, []int{8, 9, 10, 16, 17}, windState(impl.WindSlow, 0)}, {r, impl.WindSlow, 1, []int{18, 60}, windState(impl.WindStop, 0)},
		{r, impl.WindStop, 0, []int{0, 7, 8, 10, 15}, windState(impl.WindStop, 1)}, {r, impl.WindStop, 0, []int{16, 17, 18, 60}, windState(impl.WindStop, 0)},
		{r, impl.WindStop, 1, []int{0, 7, 8, 10, 15}, windState(impl.WindSlow, 0)}, {r, impl.WindStop, 1, []int{16, 17, 18, 60}, windState(impl.WindStop, 0)},
		// One calm vote is enough, but only for one Level.
		{low, impl.WindFree, 0, []int{0, 1}, windState(impl.WindFree, 0)}, {low, impl.WindFree, 0, []int{2}, windState(impl.WindSlow, 0)}, {low, impl.WindFree, 0, []int{3, 60}, windState(impl.WindStop, 0)},
		{low, impl.WindSlow, 0, []int{0}, windState(impl.WindFree, 0)}, {low, impl.WindSlow, 0, []int{1, 2}, windState(impl.WindSlow, 0)}, {low, impl.WindStop, 0, []int{0, 1}, windState(impl.WindSlow, 0)}, {low, impl.WindStop, 0, []int{2, 3}, windState(impl.WindStop, 0)},
		// The greatest numbers.
		{high, impl.WindFree, 0, []int{0, 58}, windState(impl.WindFree, 0)}, {high, impl.WindFree, 0, []int{59}, windState(impl.WindSlow, 0)}, {high, impl.WindFree, 0, []int{60}, windState(impl.WindStop, 0)},
		{high, impl.WindSlow, 8, []int{0}, windState(impl.WindSlow, 9)}, {high, impl.WindSlow, 9, []int{0}, windState(impl.WindFree, 0)}, {high, impl.WindSlow, 9, []int{1, 59}, windState(impl.WindSlow, 0)},
		{high, impl.WindStop, 8, []int{0, 1}, windState(impl.WindStop, 9)}, {high, impl.WindStop, 9, []int{0, 1}, windState(impl.WindSlow, 0)}, {high, impl.WindStop, 9, []int{2, 59, 60}, windState(impl.WindStop, 0)},
	}
	for _, c := range cases {
		for _, vote := range c.votes {
			if s, ok := impl.NextWind(c.r, windState(c.level, c.calm), vote); !ok || s != c.want {
				t.Errorf("NextWind(%+v, %d, %d, %d) = %v, %v, not %v", c.r, c.level, c.calm, vote, s, ok, c.want)
			}
		}
	}
}

func TestNextWindOfEveryState(t *testing.T) {
	for _, r := range windRules() {
		for _, s := range windStates(r) {
			for vote := range impl.MaxWind + 1 {
				_, want := windAfter(r, s, []int{vote})
				if next, ok := impl.NextWind(r, s, vote); !ok || next != want {
					t.Fatalf("NextWind(%+v, %+v, %d) = %+v, %v, not %+v", r, s, vote, next, ok, want)
				}
			}
		}
	}
}

// TestTheLevelNeverGoesDownByMoreThanOne is about single readings, from every state, and about
// readings one after the other.
func TestTheLevelNeverGoesDownByMoreThanOne(t *testing.T) {
	stops, slows := 0, 0
	check := func(r impl.WindRule, level, next int) {
		if next < level-1 {
			t.Fatalf("with %+v the Level goes from %d to %d", r, level, next)
		}
		switch {
		case next < level && level == impl.WindStop:
			stops++
		case next < level:
			slows++
		}
	}
	for _, r := range windRules() {
		for _, s := range windStates(r) {
			for vote := range impl.MaxWind + 1 {
				next, ok := impl.NextWind(r, s, vote)
				if !ok {
					t.Fatalf("NextWind(%+v, %+v, %d) fails", r, s, vote)
				}
				check(r, s.Level, next.Level)
			}
		}
	}
	eachWindRun(func(r impl.WindRule, s impl.WindState, votes []int) {
		levels, end, ok := impl.RunWind(r, s, votes)
		if !ok || len(levels) != len(votes) {
			t.Fatalf("RunWind(%+v, %+v, %v) = %v, %v", r, s, votes, levels, ok)
		}
		before := s.Level
		for _, level := range levels {
			check(r, before, level)
			before = level
		}
		check(r, before, end.Level)
	})
	if stops < 1000 || slows < 1000 {
		t.Errorf("only %d times from WindStop, and %d times from WindSlow", stops, slows)
	}
}

func TestRunWindValues(t *testing.T) {
	r := exampleRule()
	calm := slices.Repeat([]int{0}, 49)
	long := slices.Concat(slices.Repeat([]int{2}, 10), slices.Repeat([]int{1}, 10), slices.Repeat([]int{0}, 30))
	cases := []struct {
		r     impl.WindRule
		s     impl.WindState
		votes []int
		want  []int
		end   impl.WindState
	}{
		{r, windState(0, 0), nil, nil, windState(0, 0)}, {r, windState(1, 1), nil, nil, windState(1, 1)}, {r, windState(2, 1), []int{}, nil, windState(2, 1)},
		{r, windState(0, 0), []int{12, 7, 7, 20, 15, 15}, []int{1, 1, 0, 2, 2, 1}, windState(1, 0)},
		{r, windState(0, 0), []int{9, 10, 7, 8, 7, 7, 9}, []int{0, 1, 1, 1, 1, 0, 0}, windState(0, 0)},
		{r, windState(0, 0), []int{10, 7, 17, 7, 18, 7}, []int{1, 1, 1, 1, 2, 2}, windState(2, 1)},
		// At each Level the calm votes are counted anew.
		{r, windState(0, 0), []int{18, 7, 7, 7, 7, 7}, []int{2, 2, 1, 1, 0, 0}, windState(0, 0)}, {r, windState(2, 1), []int{7, 7, 7}, []int{1, 1, 0}, windState(0, 0)},
		{r, windState(2, 0), []int{15, 15, 7, 9, 7}, []int{2, 1, 1, 1, 1}, windState(1, 1)}, {r, windState(1, 1), []int{60, 0, 60, 0, 0}, []int{2, 2, 2, 2, 1}, windState(1, 0)},
		// A vote that would slow a free line does not stir a stopped one if it is calm there.
		{r, windState(2, 0), []int{15, 12, 12, 12}, []int{2, 1, 1, 1}, windState(1, 0)},
		{windRule(2, 60, 1, 10), windState(0, 0), append([]int{60}, calm...), long, windState(0, 0)},
		{windRule(2, 60, 1, 10), windState(1, 9), append([]int{1}, calm...), append(slices.Repeat([]int{1}, 10), make([]int, 40)...), windState(0, 0)},
	}
	for _, c := range cases {
		if levels, end, ok := impl.RunWind(c.r, c.s, c.votes); !ok || !slices.Equal(levels, c.want) || end != c.end {
			t.Errorf("RunWind(%+v, %+v, %v) = %v, %+v, %v, not %v, %+v", c.r, c.s, c.votes, levels, end, ok, c.want, c.end)
		}
	}
}

func TestRunWindOfManyVotes(t *testing.T) {
	full, changes, ends := 0, 0, map[int]int{}
	eachWindRun(func(r impl.WindRule, s impl.WindState, votes []int) {
		want, wantEnd := windAfter(r, s, votes)
		levels, end, ok := impl.RunWind(r, s, votes)
		if !ok || !slices.Equal(levels, want) || end != wantEnd {
			t.Fatalf("RunWind(%+v, %+v, %v) = %v, %+v, %v, not %v, %+v", r, s, votes, levels, end, ok, want, wantEnd)
		}
		// It is the same to go on from the state after some readings.
		half := len(votes) / 2
		first, middle, _ := impl.RunWind(r, s, votes[:half])
		second, last, _ := impl.RunWind(r, middle, votes[half:])
		if !slices.Equal(slices.Concat(first, second), levels) || last != end {
			t.Fatalf("%+v, %+v: %v and %v after %+v", r, s, first, second, middle)
		}
		if len(votes) == 50 {
			full++
		}
		changes += len(slices.Compact(levels))
		ends[end.Level]++
	})
	if full < 1000 || changes < 10000 || ends[0] < 500 || ends[1] < 500 || ends[2] < 500 {
		t.Errorf("only %d runs of 50 readings, %d changes and the ends %v", full, changes, ends)
	}
}

func TestNextWindAndRunWindFail(t *testing.T) {
	check := func(r impl.WindRule, s impl.WindState, votes ...int) {
		t.Helper()
		if levels, end, ok := impl.RunWind(r, s, votes); ok || len(levels) != 0 || end != (impl.WindState{}) {
			t.Errorf("RunWind(%+v, %+v, %.300s) = %v, %+v, %v", r, s, fmt.Sprint(votes), levels, end, ok)
		}
		if len(votes) == 1 {
			if next, ok := impl.NextWind(r, s, votes[0]); ok || next != (impl.WindState{}) {
				t.Errorf("NextWind(%+v, %+v, %d) = %+v, %v", r, s, votes[0], next, ok)
			}
		}
	}
	for _, r := range invalidWindRules() {
		for _, s := range []impl.WindState{{}, windState(1, 0), windState(2, 1)} {
			check(r, s)
			check(r, s, 0)
			check(r, s, 60)
			check(r, s, 5, 20, 5)
		}
	}
	for _, r := range windRules() {
		for _, s := range invalidWindStates(r) {
			check(r, s)
			check(r, s, 0)
			check(r, s, 60)
			check(r, s, 5, 20, 5)
		}
		for _, s := range windStates(r) {
			for _, vote := range append(wrongWinds(), -1) {
				check(r, s, vote)
			}
		}
	}
	for _, votes := range invalidVotes() {
		check(exampleRule(), impl.WindState{}, votes...)
		check(exampleRule(), windState(2, 1), votes...)
	}
	// A Calm that is too great with one Hold is valid with a greater one.
	if _, ok := impl.NextWind(windRule(10, 18, 2, 3), windState(1, 2), 7); !ok {
		t.Error("Calm may be 2 if Hold is 3")
	}
}

func TestBrokenSensorsValues(t *testing.T) {
	cases := []struct {
		sensors []int
		spread  int
		want    []int
	}{
		{[]int{5, -1, 12}, 6, []int{0, 1}}, {[]int{5, -1, 12}, 7, []int{1}}, {[]int{5, -1, 12}, 8, []int{1}}, {[]int{5, -1, 12}, 0, []int{0, 1}}, {[]int{5, -1, 12}, math.MaxInt, []int{1}},
		{[]int{7}, 0, nil}, {[]int{7, 7, 7, 7, 7}, 0, nil}, {[]int{7, 7, 8, 7, 6}, 0, []int{2, 4}}, {[]int{7, 7, 8, 7, 6}, 1, nil}, {[]int{0, 30, 60}, 29, []int{0, 2}}, {[]int{0, 30, 60}, 30, nil}, {[]int{60, 0, 60, 0}, 59, []int{1, 3}}, {[]int{60, 0, 60, 0}, 60, nil},
		// The vote is MaxWind because too few are not broken; the others differ from that.
		{[]int{-1}, 0, []int{0}}, {[]int{-1, 5, -1}, 54, []int{0, 1, 2}}, {[]int{-1, 5, -1}, 55, []int{0, 2}}, {[]int{-1, -1, 60}, 0, []int{0, 1}}, {[]int{-1, -1, -1, -1, -1}, 100, []int{0, 1, 2, 3, 4}},
		// Half of them are broken, and a spread of 1 does not make -1 a speed close to 0.
		{[]int{-1, 5, 9, -1}, 3, []int{0, 1, 3}}, {[]int{-1, 5, 9, -1}, 4, []int{0, 3}}, {[]int{0, -1}, 1, []int{1}}, {[]int{-1, 0, 0}, 1, []int{0}}, {[]int{-1, 0, 0}, 100, []int{0}},
	}
	for _, c := range cases {
		if n, ok := impl.BrokenSensors(c.sensors, c.spread); !ok || !slices.Equal(n, c.want) {
			t.Errorf("BrokenSensors(%v, %d) = %v, %v, not %v", c.sensors, c.spread, n, ok, c.want)
		}
		for _, spread := range []int{-1, -2, -c.spread - 1, math.MinInt, math.MinInt + 1} {
			if n, ok := impl.BrokenSensors(c.sensors, spread); ok || len(n) != 0 {
				t.Errorf("BrokenSensors(%v, %d) = %v, %v", c.sensors, spread, n, ok)
			}
		}
	}
}

func TestBrokenSensorsOfManySensors(t *testing.T) {
	found, none := 0, 0
	eachSensors(func(sensors []int) {
		vote, _ := impl.VoteOf(sensors)
		for _, spread := range []int{0, 1, 5, 6, 7, 23, 29, 30, 31, 52, 53, 58, 59, 60, 61, math.MaxInt} {
			want := []int{}
			for i, speed := range sensors {
				if speed == -1 || speed-vote > spread || vote-speed > spread {
					want = append(want, i)
				}
			}
			if n, ok := impl.BrokenSensors(sensors, spread); !ok || !slices.Equal(n, want) {
				t.Fatalf("BrokenSensors(%v, %d) = %v, %v, not %v", sensors, spread, n, ok, want)
			}
			found += len(want)
			if len(want) == 0 {
				none++
			}
		}
	})
	if found < 100000 || none < 10000 {
		t.Errorf("only %d are broken, and %d lists have none", found, none)
	}
}

func TestTimeStopped(t *testing.T) {
	r, slow := exampleRule(), windRule(2, 60, 1, 10)
	cases := []struct {
		r     impl.WindRule
		votes []int
		want  int
	}{
		{r, nil, 0}, {r, []int{}, 0}, {r, []int{17}, 0}, {r, []int{18}, 1}, {r, []int{12, 7, 7, 20, 15, 15}, 2}, {r, []int{12, 7, 7, 20, 15, 16, 15, 15}, 4}, {r, []int{20, 0, 0, 20, 0, 0}, 4}, {r, []int{10, 17, 10}, 0}, {r, slices.Repeat([]int{18}, 50), 50},
		{slow, append([]int{60}, make([]int, 49)...), 10}, {slow, append(make([]int, 49), 60), 1}, {slow, slices.Repeat([]int{59}, 50), 0}, {windRule(2, 3, 1, 1), []int{3, 2, 1, 3, 0, 3}, 4},
	}
	for _, c := range cases {
		if n, ok := impl.TimeStopped(c.r, c.votes); !ok || n != c.want {
			t.Errorf("TimeStopped(%+v, %v) = %d, %v, not %d", c.r, c.votes, n, ok, c.want)
		}
	}
	total := 0
	eachWindRun(func(r impl.WindRule, _ impl.WindState, votes []int) {
		levels, _ := windAfter(r, impl.WindState{}, votes)
		want := 0
		for _, level := range levels {
			want += level / 2
		}
		if n, ok := impl.TimeStopped(r, votes); !ok || n != want {
			t.Fatalf("TimeStopped(%+v, %v) = %d, %v, not %d", r, votes, n, ok, want)
		}
		total += want
	})
	if total < 10000 {
		t.Errorf("the Level is WindStop after %d readings only", total)
	}
}

func TestTimeStoppedAndCompareRulesFail(t *testing.T) {
	check := func(a, b impl.WindRule, votes ...int) {
		t.Helper()
		if n, ok := impl.CompareRules(a, b, votes); ok || n != 0 {
			t.Errorf("CompareRules(%+v, %+v, %.300s) = %d, %v", a, b, fmt.Sprint(votes), n, ok)
		}
		if n, ok := impl.TimeStopped(a, votes); a != exampleRule() && (ok || n != 0) {
			t.Errorf("TimeStopped(%+v, %.300s) = %d, %v", a, fmt.Sprint(votes), n, ok)
		}
	}
	for _, r := range invalidWindRules() {
		for _, votes := range [][]int{nil, {0}, {60}, {20, 0, 20}} {
			check(r, exampleRule(), votes...)
			check(exampleRule(), r, votes...)
			check(r, r, votes...)
		}
	}
	for _, votes := range invalidVotes() {
		check(exampleRule(), windRule(2, 3, 1, 1), votes...)
		check(windRule(2, 3, 1, 1), exampleRule(), votes...)
	}
}

func TestEarliestFreeValues(t *testing.T) {
	r, low, high := exampleRule(), windRule(2, 3, 1, 1), windRule(59, 60, 58, 10)
	cases := []struct {
		r    impl.WindRule
		s    impl.WindState
		want int
	}{
		{r, windState(0, 0), 0}, {r, windState(1, 0), 2}, {r, windState(1, 1), 1}, {r, windState(2, 0), 4}, {r, windState(2, 1), 3}, {low, windState(0, 0), 0}, {low, windState(1, 0), 1}, {low, windState(2, 0), 2},
		{high, windState(0, 0), 0}, {high, windState(1, 0), 10}, {high, windState(1, 9), 1}, {high, windState(2, 0), 20}, {high, windState(2, 9), 11},
	}
	for _, c := range cases {
		if n, ok := impl.EarliestFree(c.r, c.s); !ok || n != c.want {
			t.Errorf("EarliestFree(%+v, %+v) = %d, %v, not %d", c.r, c.s, n, ok, c.want)
		}
	}
	for _, r := range invalidWindRules() {
		for _, s := range []impl.WindState{{}, windState(1, 0), windState(2, 1)} {
			if n, ok := impl.EarliestFree(r, s); ok || n != 0 {
				t.Errorf("EarliestFree(%+v, %+v) = %d, %v", r, s, n, ok)
			}
		}
	}
	for _, r := range windRules() {
		for _, s := range invalidWindStates(r) {
			if n, ok := impl.EarliestFree(r, s); ok || n != 0 {
				t.Errorf("EarliestFree(%+v, %+v) = %d, %v", r, s, n, ok)
			}
		}
	}
}

// TestEarliestFreeOfEveryState follows all votes from each state, reading by reading.
func TestEarliestFreeOfEveryState(t *testing.T) {
	for _, r := range windRules() {
		for _, s := range windStates(r) {
			readings, reached := 0, []impl.WindState{s}
			for !slices.Contains(reached, impl.WindState{}) {
				next := []impl.WindState{}
				for _, from := range reached {
					for vote := range impl.MaxWind + 1 {
						if _, to := windAfter(r, from, []int{vote}); !slices.Contains(next, to) {
							next = append(next, to)
						}
					}
				}
				readings, reached = readings+1, next
			}
			if n, ok := impl.EarliestFree(r, s); !ok || n != readings {
				t.Fatalf("EarliestFree(%+v, %+v) = %d, %v, not %d", r, s, n, ok, readings)
			}
		}
	}
}

func TestGreatestFree(t *testing.T) {
	for _, r := range windRules() {
		n, ok := impl.GreatestFree(r)
		if !ok || n < 0 || n >= impl.MaxWind {
			t.Fatalf("GreatestFree(%+v) = %d, %v", r, n, ok)
		}
		for vote := range impl.MaxWind + 1 {
			if _, s := windAfter(r, impl.WindState{}, []int{vote}); (s.Level == impl.WindFree) != (vote <= n) {
				t.Errorf("GreatestFree(%+v) = %d, but after %d the Level is %d", r, n, vote, s.Level)
			}
		}
	}
	for _, c := range []struct{ slow, want int }{{2, 1}, {3, 2}, {10, 9}, {59, 58}} {
		if n, ok := impl.GreatestFree(windRule(c.slow, 60, 1, 3)); !ok || n != c.want {
			t.Errorf("GreatestFree with Slow %d is %d, %v", c.slow, n, ok)
		}
	}
	for _, r := range invalidWindRules() {
		if n, ok := impl.GreatestFree(r); ok || n != 0 {
			t.Errorf("GreatestFree(%+v) = %d, %v", r, n, ok)
		}
	}
}

func TestCompareRulesValues(t *testing.T) {
	r, later, short := exampleRule(), windRule(12, 18, 2, 2), windRule(10, 18, 2, 1)
	cases := []struct {
		a, b  impl.WindRule
		votes []int
		want  int
	}{
		{r, later, nil, 0}, {r, later, []int{}, 0}, {r, later, []int{11, 5, 5}, 2}, {later, r, []int{11, 5, 5}, 0}, {r, r, []int{11, 5, 5, 20, 3, 17}, 0}, {r, short, []int{11, 5, 5}, 1}, {short, r, []int{11, 5, 5}, 0},
		// Levels 2, 2, 1, 1, 0, 0 and 2, 1, 0, 0, 0, 0: a greater Level counts once, by however much it is greater.
		{r, short, []int{20, 0, 0, 0, 0, 0}, 3}, {short, r, []int{20, 0, 0, 0, 0, 0}, 0}, {windRule(2, 3, 1, 10), windRule(59, 60, 1, 1), slices.Repeat([]int{58}, 50), 50}, {windRule(59, 60, 1, 1), windRule(2, 3, 1, 10), slices.Repeat([]int{58}, 50), 0},
		// Each is greater at some time: 1, 1, 1, 2, 2 and 0, 0, 2, 2, 1.
		{windRule(5, 30, 1, 1), windRule(10, 20, 1, 1), []int{5, 6, 20, 30, 5}, 2}, {windRule(10, 20, 1, 1), windRule(5, 30, 1, 1), []int{5, 6, 20, 30, 5}, 1},
	}
	for _, c := range cases {
		if n, ok := impl.CompareRules(c.a, c.b, c.votes); !ok || n != c.want {
			t.Errorf("CompareRules(%+v, %+v, %v) = %d, %v, not %d", c.a, c.b, c.votes, n, ok, c.want)
		}
	}
}

func TestCompareRulesOfManyVotes(t *testing.T) {
	both, seed := 0, 0
	eachWindRun(func(a impl.WindRule, _ impl.WindState, votes []int) {
		seed++
		b := windRuleOf(seed)
		ofA, _ := windAfter(a, impl.WindState{}, votes)
		ofB, _ := windAfter(b, impl.WindState{}, votes)
		greater, less := 0, 0
		for i := range votes {
			if ofA[i] > ofB[i] {
				greater++
			} else if ofA[i] < ofB[i] {
				less++
			}
		}
		n, ok := impl.CompareRules(a, b, votes)
		m, reversedOk := impl.CompareRules(b, a, votes)
		if !ok || !reversedOk || n != greater || m != less {
			t.Fatalf("CompareRules(%+v, %+v, %v) = %d, %v, and reversed %d, %v, not %d and %d", a, b, votes, n, ok, m, reversedOk, greater, less)
		}
		if own, ok := impl.CompareRules(a, a, votes); !ok || own != 0 {
			t.Fatalf("CompareRules(%+v) with itself = %d, %v", a, own, ok)
		}
		if greater > 0 && less > 0 {
			both++
		}
	})
	if both < 500 {
		t.Errorf("only %d times each rule is greater at some time", both)
	}
}

// windResults returns the results of all functions of the chapter as text. It fails the test if one
// of them succeeds for an invalid argument, fails for valid ones, or returns a result beside false
// that is not zero.
func windResults(t *testing.T, r impl.WindRule, s impl.WindState, list []int, n int) string {
	t.Helper()
	valid := impl.IsWindRule(r)
	vote, voteOk := impl.VoteOf(list)
	next, nextOk := impl.NextWind(r, s, n)
	levels, end, runOk := impl.RunWind(r, s, list)
	broken, brokenOk := impl.BrokenSensors(list, n)
	stopped, stoppedOk := impl.TimeStopped(r, list)
	earliest, earliestOk := impl.EarliestFree(r, s)
	free, freeOk := impl.GreatestFree(r)
	greater, greaterOk := impl.CompareRules(r, exampleRule(), list)
	less, lessOk := impl.CompareRules(exampleRule(), r, list)
	areVotes := len(list) <= 50
	areSensors := 1 <= len(list) && len(list) <= 5
	for _, speed := range list {
		areVotes = areVotes && 0 <= speed && speed <= 60
		areSensors = areSensors && -1 <= speed && speed <= 60
	}
	isState := s == impl.WindState{} || (s.Level == 1 || s.Level == 2) && 0 <= s.Calm && s.Calm < r.Hold
	want := []bool{areSensors, valid && isState && 0 <= n && n <= 60, valid && isState && areVotes, areSensors && n >= 0, valid && areVotes, valid && isState, valid, valid && areVotes, valid && areVotes}
	got := []bool{voteOk, nextOk, runOk, brokenOk, stoppedOk, earliestOk, freeOk, greaterOk, lessOk}
	if !slices.Equal(got, want) {
		t.Fatalf("%+v, %+v, %.300s, %d: %v, not %v", r, s, fmt.Sprint(list), n, got, want)
	}
	zero := vote == 0 || voteOk
	zero = zero && (next == impl.WindState{} || nextOk) && (len(levels) == 0 && end == impl.WindState{} || runOk) && (len(broken) == 0 || brokenOk) && (stopped == 0 || stoppedOk)
	zero = zero && (earliest == 0 || earliestOk) && (free == 0 || freeOk) && (greater == 0 || greaterOk) && (less == 0 || lessOk)
	if !zero {
		t.Fatalf("%+v, %+v, %.300s, %d: a result beside false is not zero", r, s, fmt.Sprint(list), n)
	}
	return fmt.Sprint(got, vote, next, levels, end, broken, stopped, earliest, free, greater, less)
}

// TestWindReturnsForAllArguments gives valid and invalid arguments to every function of the chapter,
// with lists as parts of longer ones, and expects that nothing in these changes, that what stands
// behind them does not count, and that a second call returns the same.
func TestWindReturnsForAllArguments(t *testing.T) {
	check := func(r impl.WindRule, s impl.WindState, list []int, n int) {
		memory := append(slices.Clone(list), 60, -1, 0, math.MinInt)
		before := slices.Clone(memory)
		first := windResults(t, r, s, slices.Clone(list), n)
		if second := windResults(t, r, s, memory[:len(list)], n); second != first {
			t.Fatalf("%.300s and then %.300s", first, second)
		}
		if !slices.Equal(memory, before) {
			t.Fatalf("the argument %.300s is changed", fmt.Sprint(list))
		}
	}
	lists := append(append(invalidVotes(), invalidSensors()...), []int{9, 3, 5, 1, 7}, []int{9, -1, 5, -1}, []int{-1, -1, 5}, []int{60, 0, 60, 0, 18, 0}, []int{3})
	tried := append(extremes(), 0, 1, 2, 9, 10, 59, 60, 61)
	eachWindRun(func(r impl.WindRule, s impl.WindState, votes []int) {
		check(r, s, votes, len(votes))
		check(r, s, votes[:min(len(votes), 5)], 60)
	})
	for i, list := range lists {
		for j, n := range tried {
			check(exampleRule(), windState(2, 1), list, n)
			check(windRuleOf(i), windState(i%3, 0), list, n)
			check(windRule(n, 18, tried[i%len(tried)], 2), windState(1, n), list, n)
			check(windRule(10, 18, 2, 2+i%9), windState(j%4, 1+j%9), list, n)
		}
	}
	for _, r := range append(invalidWindRules(), exampleRule()) {
		for _, s := range append(invalidWindStates(exampleRule()), impl.WindState{}, windState(1, 1)) {
			check(r, s, []int{20, 5, 5}, 5)
			check(r, s, nil, s.Level)
			check(r, s, []int{r.Slow, r.Stop}, r.Hold)
		}
	}
}

// TestWindReturnsNewMemory changes the results, and behind their length, and expects that neither the
// argument nor a later result changes with them.
func TestWindReturnsNewMemory(t *testing.T) {
	memory := []int{9, 60, -1, 3, 0}
	votes := []int{20, 5, 12, 3, 0}
	run := func(list []int) ([]int, bool) {
		levels, _, ok := impl.RunWind(exampleRule(), windState(1, 1), list)
		return levels, ok
	}
	broken := func(list []int) ([]int, bool) { return impl.BrokenSensors(list, 0) }
	check := func(f func([]int) ([]int, bool), list, all []int) {
		before := slices.Clone(all)
		one, ok := f(list)
		two, _ := f(list)
		kept := slices.Clone(two)
		if !ok || !slices.Equal(one, two) {
			t.Fatalf("%v: %v, %v and then %v", list, one, ok, two)
		}
		clear(append(one, 77, 78))
		clear(one[:cap(one)])
		if three, _ := f(list); !slices.Equal(all, before) || !slices.Equal(two, kept) || !slices.Equal(three, kept) {
			t.Errorf("a result of %v shares memory", list)
		}
	}
	for count := 1; count <= 5; count++ {
		check(run, votes[:count], votes)
		check(broken, memory[:count], memory)
		check(broken, votes[:count], votes)
	}
}
