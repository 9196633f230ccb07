package tests

import (
	"fmt"
	"math"
	"slices"
	"testing"

	"loop.example/g00935/impl"
)

func brake(force, delay int) impl.Brake {
	return impl.Brake{Force: force, Delay: delay}
}

func drive(mass, pull int, brakes ...impl.Brake) impl.Drive {
	return impl.Drive{Mass: mass, Pull: pull, Brakes: brakes}
}

// exampleDrive slows down by 5 at first, and by 15 from the second 2 on.
func exampleDrive() impl.Drive {
	return drive(1000, 500, brake(1000, 0), brake(1000, 2))
}

// slowDrive slows down by 1 in each second.
func slowDrive(delay int) impl.Drive {
	return drive(10, 0, brake(1, delay))
}

// runaway becomes as fast as a rope can, and stops then.
func runaway() impl.Drive {
	return drive(1, impl.MaxForce, brake(impl.MaxForce, 10), brake(impl.MaxForce, 10), brake(impl.MaxForce, 10), brake(impl.MaxForce, 10))
}

// tieDrive has a Brake for each Force; without a Pull a Force slows down by as much.
func tieDrive(forces ...int) impl.Drive {
	d := drive(10, 0)
	for _, force := range forces {
		d.Brakes = append(d.Brakes, brake(force, 0))
	}
	return d
}

// copyOfDrive returns a Drive that shares no memory with d.
func copyOfDrive(d impl.Drive) impl.Drive {
	return drive(d.Mass, d.Pull, slices.Clone(d.Brakes)...)
}

// driveOf returns a Drive whose speed changes by some decimeters in a second, and is often not a
// multiple of them; some of them never stop.
func driveOf(seed int) impl.Drive {
	next := numbers(seed)
	mass := []int{1 + next(9), 10 * (1 + next(100)), 1000, 1 + next(30000)}[next(4)]
	unit := mass/10 + 1
	d := drive(mass, []int{0, unit*(next(16)-5) + next(3) - 1, next(7) - 3, unit * next(6)}[next(4)])
	for range next(impl.MaxBrakes + 1) {
		force := []int{next(3), unit * next(4), unit*next(12) + next(unit), unit * 5}[next(4)]
		d.Brakes = append(d.Brakes, brake(force, []int{0, next(3), next(11), 10}[next(4)]))
	}
	return d
}

// eachDrive calls f with a Drive and a speed, many times.
func eachDrive(f func(d impl.Drive, speed int)) {
	for _, d := range []impl.Drive{exampleDrive(), slowDrive(0), slowDrive(10), runaway(), tieDrive(1, 2, 2, 3), tieDrive(0, 0, 0, 0), drive(1, 0), drive(100000, 1), drive(100000, -1), drive(1, -impl.MaxForce), drive(1, impl.MaxForce)} {
		for speed := range impl.MaxSpeed + 1 {
			f(d, speed)
		}
	}
	for seed := range 3000 {
		next := numbers(seed + 7)
		for _, speed := range []int{0, 1, next(20), next(101), impl.MaxSpeed} {
			f(driveOf(seed), speed)
		}
	}
}

// invalidDrives returns Drives that break one rule each.
func invalidDrives() []impl.Drive {
	five := tieDrive(1, 1, 1, 1, 1)
	list := []impl.Drive{{}, five, drive(10, -50, five.Brakes...), drive(1000, 0, make([]impl.Brake, 100000)...), drive(1000, 0, make([]impl.Brake, 64)...)}
	for _, n := range append(extremes(), -10, 0, 100001, 100002) {
		list = append(list, drive(n, 0, brake(1000, 0)), drive(n, -500), drive(n, -500, brake(0, 0), brake(1, 1)))
	}
	for _, n := range slices.DeleteFunc(append(extremes(), -100002, -100001, 100001, 100002), func(n int) bool { return -impl.MaxForce <= n && n <= impl.MaxForce }) {
		list = append(list, drive(1000, n), drive(1000, n, brake(impl.MaxForce, 0)), drive(1000, n, brake(impl.MaxForce, 0), brake(impl.MaxForce, 1)))
	}
	wrong := []impl.Brake{}
	for _, n := range append(extremes(), -2) {
		wrong = append(wrong, brake(n, 0), brake(1000, n))
	}
	wrong = append(wrong, brake(100001, 0), brake(100002, 5), brake(1000, 11), brake(1000, 12), brake(0, 60))
	for _, b := range wrong {
		for i := range impl.MaxBrakes {
			brakes := slices.Repeat([]impl.Brake{brake(1000, 0)}, impl.MaxBrakes)
			brakes[i] = b
			list = append(list, drive(1000, 0, brakes...), drive(1000, -500, brakes[i:]...), drive(1000, -500, brakes[:i+1]...))
		}
	}
	return list
}

// wrongBrakes are numbers that are no index of a Brake in a list.
func wrongBrakes(d impl.Drive) []int {
	return append(extremes(), -2, len(d.Brakes), len(d.Brakes)+1, 64)
}

// speedsOf brakes with some of the Brakes, second by second; it returns nil if the rope does not
// stop in 60 seconds.
func speedsOf(d impl.Drive, speed int, used []int) []int {
	forces := [60]int{}
	for second := range forces {
		forces[second] = d.Pull
	}
	for _, i := range used {
		for second := d.Brakes[i].Delay; second < 60; second++ {
			forces[second] -= d.Brakes[i].Force
		}
	}
	speeds := []int{speed}
	for _, force := range forces {
		if speed == 0 {
			return speeds
		}
		// What lacks to the next smaller multiple of the Mass.
		rest := (10*force%d.Mass + d.Mass) % d.Mass
		speed += (10*force - rest) / d.Mass
		if speed < 0 {
			speed = 0
		}
		speeds = append(speeds, speed)
	}
	if speed == 0 {
		return speeds
	}
	return nil
}

// wayOf returns the way with some of the Brakes, and true; it fails if the rope does not stop.
func wayOf(d impl.Drive, speed int, used []int) (int, bool) {
	speeds := speedsOf(d, speed, used)
	way := 0
	for i := range speeds {
		// Every speed counts in the second before it and in the one behind it.
		way += 2 * speeds[i]
	}
	if speeds != nil {
		way -= speed
	}
	return way, speeds != nil
}

// brakesBut returns the indices of all Brakes of a Drive but one; -1 leaves out none.
func brakesBut(d impl.Drive, without int) []int {
	used := []int{}
	for i := range d.Brakes {
		if i != without {
			used = append(used, i)
		}
	}
	return used
}

// listsOf returns all lists of indices below n in ascending order: shorter ones first, and those of
// the same length in lexicographic order.
func listsOf(n int) [][]int {
	lists := [][]int{{}}
	for i := range n {
		for _, list := range slices.Clone(lists) {
			lists = append(lists, append(slices.Clone(list), i))
		}
	}
	slices.SortFunc(lists, func(a, b []int) int {
		if len(a) != len(b) {
			return len(a) - len(b)
		}
		return slices.Compare(a, b)
	})
	return lists
}

func TestIsDriveAcceptsUpToTheLimits(t *testing.T) {
	for count := range impl.MaxBrakes + 1 {
		for _, mass := range []int{1, 2, 1000, 99999, 100000} {
			for _, pull := range []int{-100000, -99999, -1, 0, 1, 99999, 100000} {
				for _, force := range []int{0, 1, 99999, 100000} {
					for delay := range 11 {
						d := drive(mass, pull, slices.Repeat([]impl.Brake{brake(force, delay)}, count)...)
						if !impl.IsDrive(d) {
							t.Fatalf("%v is no Drive", d)
						}
					}
				}
			}
		}
	}
	eachDrive(func(d impl.Drive, _ int) {
		if !impl.IsDrive(d) {
			t.Fatalf("%v is no Drive", d)
		}
	})
	for _, d := range invalidDrives() {
		if impl.IsDrive(d) {
			t.Errorf("%.300s is a Drive", fmt.Sprint(d))
		}
	}
	if impl.MaxBrakes != 4 || impl.MaxForce != 100000 {
		t.Errorf("MaxBrakes is %d, MaxForce %d", impl.MaxBrakes, impl.MaxForce)
	}
}

// brakeCases are Drives and speeds with the speeds until they stop, nil if they do not, and the way.
func brakeCases() []struct {
	d     impl.Drive
	speed int
	want  []int
	way   int
} {
	return []struct {
		d     impl.Drive
		speed int
		want  []int
		way   int
	}{
		{exampleDrive(), 20, []int{20, 15, 10, 0}, 70}, {exampleDrive(), 5, []int{5, 0}, 5}, {exampleDrive(), 10, []int{10, 5, 0}, 20}, {exampleDrive(), 11, []int{11, 6, 1, 0}, 25}, {exampleDrive(), 100, []int{100, 95, 90, 75, 60, 45, 30, 15, 0}, 920},
		// A rope that stands, whatever pulls it.
		{exampleDrive(), 0, []int{0}, 0}, {drive(1, impl.MaxForce), 0, []int{0}, 0}, {drive(1, -impl.MaxForce), 0, []int{0}, 0}, {drive(1000, 0), 0, []int{0}, 0},
		// Changes are rounded down, also when they are negative.
		{drive(3, 0, brake(1, 0)), 9, []int{9, 5, 1, 0}, 21}, {drive(3, 1, brake(2, 2)), 5, []int{5, 8, 11, 7, 3, 0}, 63}, {drive(3, 2, brake(3, 1)), 5, []int{5, 11, 7, 3, 0}, 47}, {drive(100000, 0, brake(1, 0)), 3, []int{3, 2, 1, 0}, 9}, {drive(100000, -1), 3, []int{3, 2, 1, 0}, 9}, {drive(100000, 9999, brake(10000, 1)), 2, []int{2, 2, 1, 0}, 8}, {drive(100000, 10000, brake(10001, 1)), 2, []int{2, 3, 2, 1, 0}, 14}, {drive(10, 0, brake(2, 0)), 5, []int{5, 3, 1, 0}, 13}, {drive(1, 0, brake(1, 0)), 11, []int{11, 1, 0}, 13},
		// The Pull alone stops it.
		{drive(10, -5), 12, []int{12, 7, 2, 0}, 30}, {drive(1, -impl.MaxForce), 100, []int{100, 0}, 100},
		// A Brake with a Delay holds from this second on, and not before.
		{drive(1000, 0, brake(1000, 0)), 10, []int{10, 0}, 10}, {drive(1000, 0, brake(1000, 1)), 10, []int{10, 10, 0}, 30}, {drive(1000, 0, brake(1000, 10)), 10, []int{10, 10, 10, 10, 10, 10, 10, 10, 10, 10, 10, 0}, 210}, {drive(1000, -300, brake(700, 1)), 10, []int{10, 7, 0}, 24}, {drive(1000, -300, brake(1000, 9)), 7, []int{7, 4, 1, 0}, 17},
		// Brakes add up, in any order of their Delays.
		{drive(1000, 0, brake(300, 2), brake(200, 0), brake(100, 1), brake(100, 3)), 17, []int{17, 15, 12, 6, 0}, 83}, {drive(1000, 0, brake(100, 0), brake(100, 0), brake(100, 0), brake(100, 0)), 9, []int{9, 5, 1, 0}, 21}, {drive(1000, 0, brake(0, 0), brake(500, 0)), 9, []int{9, 4, 0}, 17},
		{runaway(), 100, []int{100, 1000100, 2000100, 3000100, 4000100, 5000100, 6000100, 7000100, 8000100, 9000100, 10000100, 7000100, 4000100, 1000100, 0}, 134002700},
		// Just in 60 seconds, and one more.
		{slowDrive(0), 61, nil, 0}, {slowDrive(0), 100, nil, 0}, {slowDrive(1), 60, nil, 0}, {slowDrive(10), 51, nil, 0}, {drive(100000, -1), 61, nil, 0},
		// Never.
		{drive(1000, 0), 1, nil, 0}, {drive(1000, 0), 100, nil, 0}, {drive(1000, 1), 1, nil, 0}, {drive(1, impl.MaxForce), 1, nil, 0}, {drive(10, 7, brake(7, 0)), 1, nil, 0}, {drive(10, 7, brake(3, 0), brake(4, 5)), 50, nil, 0}, {drive(10, 8, brake(7, 0)), 1, nil, 0}, {tieDrive(0, 0, 0, 0), 1, nil, 0}, {drive(1, impl.MaxForce, brake(impl.MaxForce, 0)), 1, nil, 0},
	}
}

func TestBrakeSpeedsAndWayValues(t *testing.T) {
	for _, c := range brakeCases() {
		if l, ok := impl.BrakeSpeeds(c.d, c.speed); ok != (c.want != nil) || !slices.Equal(l, c.want) {
			t.Errorf("BrakeSpeeds(%v, %d) = %v, %v, not %v", c.d, c.speed, l, ok, c.want)
		}
		if n, ok := impl.BrakeWay(c.d, c.speed); ok != (c.want != nil) || n != c.way {
			t.Errorf("BrakeWay(%v, %d) = %d, %v, not %d", c.d, c.speed, n, ok, c.way)
		}
	}
}

// TestStopsJustInTime brakes by 1 in each second, so that it takes as many seconds as the speed and
// the Delay are.
func TestStopsJustInTime(t *testing.T) {
	for delay := range 11 {
		for speed := 1; speed <= impl.MaxSpeed; speed++ {
			want := speed+delay <= 60
			l, ok := impl.BrakeSpeeds(slowDrive(delay), speed)
			if ok != want || ok && (len(l) != speed+delay+1 || l[delay] != speed || l[delay+1] != speed-1) || !ok && len(l) != 0 {
				t.Errorf("BrakeSpeeds with the delay %d from %d = %v, %v", delay, speed, l, ok)
			}
			way := 0
			if want {
				way = speed*speed + 2*speed*delay
			}
			if n, ok := impl.BrakeWay(slowDrive(delay), speed); ok != want || n != way {
				t.Errorf("BrakeWay with the delay %d from %d = %d, %v, not %d", delay, speed, n, ok, way)
			}
		}
	}
}

func TestBrakesOfManyDrives(t *testing.T) {
	stopped, never, longer := 0, 0, 0
	eachDrive(func(d impl.Drive, speed int) {
		want := speedsOf(d, speed, brakesBut(d, -1))
		l, ok := impl.BrakeSpeeds(d, speed)
		if ok != (want != nil) || !slices.Equal(l, want) {
			t.Fatalf("BrakeSpeeds(%v, %d) = %v, %v, not %v", d, speed, l, ok, want)
		}
		way, stops := wayOf(d, speed, brakesBut(d, -1))
		if n, ok := impl.BrakeWay(d, speed); ok != stops || n != way {
			t.Fatalf("BrakeWay(%v, %d) = %d, %v, not %d", d, speed, n, ok, way)
		}
		switch {
		case !ok:
			never++
		case len(l) > 12:
			longer++
		default:
			stopped++
		}
	})
	if stopped < 3000 || never < 3000 || longer < 1000 {
		t.Errorf("too few: %d stop, %d after some time, %d never", stopped, longer, never)
	}
}

func TestWayWithoutValues(t *testing.T) {
	cases := []struct {
		d            impl.Drive
		speed, brake int
		want         int
	}{
		{exampleDrive(), 20, 1, 80}, {exampleDrive(), 20, 0, 280}, {exampleDrive(), 0, 0, 0}, {exampleDrive(), 0, 1, 0}, {tieDrive(1, 2, 2, 3), 7, 0, 7}, {tieDrive(1, 2, 2, 3), 7, 1, 9}, {tieDrive(1, 2, 2, 3), 7, 2, 9}, {tieDrive(1, 2, 2, 3), 7, 3, 11}, {drive(10, -5, brake(7, 0)), 12, 0, 30}, {drive(10, -5, brake(0, 0)), 12, 0, 30}, {drive(1, impl.MaxForce, brake(0, 0)), 0, 0, 0},
		// Without this Brake it never stops.
		{slowDrive(0), 1, 0, -1}, {drive(1000, 500, brake(600, 0), brake(500, 0)), 20, 0, -1}, {drive(1000, 500, brake(400, 0), brake(700, 0)), 20, 1, -1},
		// Without the other one it does.
		{drive(1000, 500, brake(600, 0), brake(500, 0)), 3, 1, 9},
		// It never stops with any.
		{tieDrive(0, 0), 1, 0, -1},
		// Stops with all Brakes in time, and without one too late.
		{tieDrive(1, 1), 61, 0, -1}, {tieDrive(1, 1), 60, 1, 3600},
	}
	for _, c := range cases {
		if n, ok := impl.WayWithout(c.d, c.speed, c.brake); ok != (c.want >= 0) || n != max(c.want, 0) {
			t.Errorf("WayWithout(%v, %d, %d) = %d, %v, not %d", c.d, c.speed, c.brake, n, ok, c.want)
		}
	}
}

// TestALostBrakeNeverMakesTheWayShorter is promise 10.
func TestALostBrakeNeverMakesTheWayShorter(t *testing.T) {
	same, longer, never := 0, 0, 0
	eachDrive(func(d impl.Drive, speed int) {
		all, stops := impl.BrakeWay(d, speed)
		for i := range d.Brakes {
			want, wantOk := wayOf(d, speed, brakesBut(d, i))
			n, ok := impl.WayWithout(d, speed, i)
			if ok != wantOk || n != want {
				t.Fatalf("WayWithout(%v, %d, %d) = %d, %v, not %d, %v", d, speed, i, n, ok, want, wantOk)
			}
			if ok && (!stops || n < all) {
				t.Fatalf("%v stops from %d on a way of %d, %v, and without %d on one of %d", d, speed, all, stops, i, n)
			}
			switch {
			case !ok:
				never++
			case n > all:
				longer++
			default:
				same++
			}
			// As if the Brake were not there.
			less := drive(d.Mass, d.Pull, slices.Delete(slices.Clone(d.Brakes), i, i+1)...)
			if m, mOk := impl.BrakeWay(less, speed); mOk != ok || m != n {
				t.Fatalf("BrakeWay(%v, %d) = %d, %v, not %d, %v", less, speed, m, mOk, n, ok)
			}
		}
		for _, i := range wrongBrakes(d) {
			if n, ok := impl.WayWithout(d, speed, i); ok || n != 0 {
				t.Fatalf("WayWithout(%v, %d, %d) = %d, %v", d, speed, i, n, ok)
			}
		}
	})
	if same < 1000 || longer < 1000 || never < 1000 {
		t.Errorf("too few: %d ways are the same, %d longer, %d without an end", same, longer, never)
	}
}

func TestAGreaterForceNeverMakesTheWayLonger(t *testing.T) {
	shorter := 0
	eachDrive(func(d impl.Drive, speed int) {
		way, ok := impl.BrakeWay(d, speed)
		for i := range d.Brakes {
			for _, more := range []int{1, d.Mass/10 + 1, impl.MaxForce} {
				stronger := copyOfDrive(d)
				stronger.Brakes[i].Force = min(stronger.Brakes[i].Force+more, impl.MaxForce)
				n, strongerOk := impl.BrakeWay(stronger, speed)
				if ok && (!strongerOk || n > way) {
					t.Fatalf("%v stops from %d on a way of %d, and %v on one of %d, %v", d, speed, way, stronger, n, strongerOk)
				}
				if ok && n < way {
					shorter++
				}
			}
		}
	})
	if shorter < 5000 {
		t.Errorf("only %d ways become shorter", shorter)
	}
}

func TestWorstLossValues(t *testing.T) {
	cases := []struct {
		d                  impl.Drive
		speed, index, want int
	}{
		{exampleDrive(), 20, 0, 280}, {exampleDrive(), 0, 0, 0}, {tieDrive(1, 2, 2, 3), 7, 3, 11}, {tieDrive(2, 3, 3, 1), 7, 1, 9}, {tieDrive(5, 5), 7, 0, 11}, {drive(10, -5, brake(0, 0)), 12, 0, 30}, {drive(10, -5, brake(1, 0), brake(7, 0)), 12, 1, 24}, {tieDrive(1, 1, 1, 1), 0, 0, 0},
		// The one that brakes earlier counts more.
		{drive(10, 0, brake(5, 10), brake(5, 0)), 10, 1, 220},
		// The rope does not stop without one of them: the first, the last, any.
		{slowDrive(0), 1, 0, -1}, {drive(1000, 500, brake(600, 0), brake(500, 0)), 20, 0, -1}, {drive(1000, 500, brake(500, 0), brake(600, 0)), 20, 0, -1}, {tieDrive(0, 0, 0, 1), 20, 0, -1}, {tieDrive(1, 0, 0, 0), 20, 0, -1}, {tieDrive(0, 0), 20, 0, -1}, {tieDrive(1, 1), 61, 0, -1},
		// There are no Brakes.
		{drive(10, -5), 12, 0, -1}, {drive(10, -5), 0, 0, -1}, {drive(10, 5), 12, 0, -1},
	}
	for _, c := range cases {
		if i, n, ok := impl.WorstLoss(c.d, c.speed); ok != (c.want >= 0) || i != c.index || n != max(c.want, 0) {
			t.Errorf("WorstLoss(%v, %d) = %d, %d, %v, not %d, %d", c.d, c.speed, i, n, ok, c.index, c.want)
		}
	}
}

func TestWorstLossOfManyDrives(t *testing.T) {
	found, none, tied := 0, 0, 0
	eachDrive(func(d impl.Drive, speed int) {
		worst, longest, stops := 0, 0, len(d.Brakes) > 0
		ties := 0
		for i := len(d.Brakes) - 1; i >= 0; i-- {
			way, ok := wayOf(d, speed, brakesBut(d, i))
			stops = stops && ok
			if way == longest {
				ties++
			}
			if way >= longest {
				worst, longest = i, way
			}
		}
		if !stops {
			worst, longest = 0, 0
		}
		i, n, ok := impl.WorstLoss(d, speed)
		if ok != stops || i != worst || n != longest {
			t.Fatalf("WorstLoss(%v, %d) = %d, %d, %v, not %d, %d, %v", d, speed, i, n, ok, worst, longest, stops)
		}
		switch {
		case !ok:
			none++
		case ties > 0:
			tied++
		default:
			found++
		}
	})
	if found < 1000 || none < 3000 || tied < 500 {
		t.Errorf("too few: %d are worst alone, %d together with others, %d have none", found, tied, none)
	}
}

func TestFewestBrakesValues(t *testing.T) {
	cases := []struct {
		d          impl.Drive
		speed, way int
		want       []int
	}{
		{exampleDrive(), 20, 80, []int{0}}, {exampleDrive(), 20, 79, []int{0, 1}}, {exampleDrive(), 20, 70, []int{0, 1}}, {exampleDrive(), 20, 69, nil}, {exampleDrive(), 20, 280, []int{0}}, {exampleDrive(), 20, 0, nil}, {exampleDrive(), 20, math.MaxInt, []int{0}},
		// No Brake at all is enough.
		{exampleDrive(), 0, 0, []int{}}, {exampleDrive(), 0, 1, []int{}}, {drive(1000, 500), 0, 0, []int{}}, {drive(10, -5), 12, 30, []int{}}, {drive(10, -5), 12, 29, nil}, {drive(10, -5, brake(1, 0)), 12, 30, []int{}}, {drive(10, -5, brake(1, 0)), 12, 29, []int{0}}, {drive(10, 5), 12, math.MaxInt, nil}, {tieDrive(0, 0, 0, 0), 1, math.MaxInt, nil},
		// Of several lists the lexicographically smallest one.
		{tieDrive(5, 5, 5, 5), 5, 5, []int{0}}, {tieDrive(5, 5, 5, 5), 10, 10, []int{0, 1}}, {tieDrive(5, 5, 5, 5), 15, 15, []int{0, 1, 2}}, {tieDrive(5, 5, 5, 5), 20, 20, []int{0, 1, 2, 3}}, {tieDrive(5, 5, 5, 5), 21, 21, nil},
		{tieDrive(1, 2, 2, 3), 4, 4, []int{0, 3}}, {tieDrive(1, 2, 2, 3), 4, 5, []int{0, 3}}, {tieDrive(1, 2, 2, 3), 4, 6, []int{3}}, {tieDrive(1, 2, 2, 3), 4, 8, []int{1}}, {tieDrive(1, 2, 2, 3), 4, 7, []int{3}}, {tieDrive(1, 2, 2, 3), 4, 16, []int{0}}, {tieDrive(1, 2, 2, 3), 4, 15, []int{1}}, {tieDrive(1, 2, 2, 3), 4, 3, nil},
		{tieDrive(2, 1, 3, 2), 4, 4, []int{0, 2}}, {tieDrive(1, 4, 1, 4), 4, 4, []int{1}}, {tieDrive(0, 1, 1, 1), 3, 3, []int{1, 2, 3}}, {tieDrive(1, 1, 0, 1), 3, 3, []int{0, 1, 3}}, {tieDrive(1, 2, 3, 1), 6, 6, []int{0, 1, 2}}, {tieDrive(1, 3, 2, 4), 8, 8, []int{0, 1, 3}}, {tieDrive(0, 1, 5, 4), 6, 6, []int{1, 2}},
		// Fewer Brakes go before a smaller index.
		{tieDrive(1, 1, 1, 3), 3, 3, []int{3}}, {tieDrive(1, 2, 9, 0), 3, 3, []int{2}},
		// With one Brake alone the rope stops too late.
		{tieDrive(1, 1), 61, math.MaxInt, []int{0, 1}}, {tieDrive(1, 1), 60, math.MaxInt, []int{0}},
	}
	for _, c := range cases {
		if l, ok := impl.FewestBrakes(c.d, c.speed, c.way); ok != (c.want != nil) || !slices.Equal(l, c.want) {
			t.Errorf("FewestBrakes(%v, %d, %d) = %v, %v, not %v", c.d, c.speed, c.way, l, ok, c.want)
		}
	}
}

func TestFewestBrakesOfManyDrives(t *testing.T) {
	sizes, none := [impl.MaxBrakes + 1]int{}, 0
	eachDrive(func(d impl.Drive, speed int) {
		lists, ways, stops := listsOf(len(d.Brakes)), []int{}, []bool{}
		wanted := []int{0, speed, math.MaxInt}
		for _, list := range lists {
			way, ok := wayOf(d, speed, list)
			ways, stops = append(ways, way), append(stops, ok)
			if ok {
				wanted = append(wanted, way, max(way-1, 0), way+1)
			}
		}
		for _, way := range wanted {
			best := 0
			for best < len(lists) && !(stops[best] && ways[best] <= way) {
				best++
			}
			want := []int{}
			if best < len(lists) {
				want = lists[best]
			}
			l, ok := impl.FewestBrakes(d, speed, way)
			if ok != (best < len(lists)) || !slices.Equal(l, want) {
				t.Fatalf("FewestBrakes(%v, %d, %d) = %v, %v, not %v", d, speed, way, l, ok, want)
			}
			if ok {
				sizes[len(l)]++
			} else {
				none++
			}
		}
	})
	if slices.Min(sizes[:]) < 300 || none < 3000 {
		t.Errorf("too few: %v lists of each length, %d without one", sizes, none)
	}
}

func TestSafeSpeedValues(t *testing.T) {
	strong := drive(1, 0, brake(impl.MaxForce, 0))
	cases := []struct {
		d         impl.Drive
		way, want int
	}{
		{exampleDrive(), 70, 20}, {exampleDrive(), 69, 19}, {exampleDrive(), 74, 20}, {exampleDrive(), 75, 21}, {exampleDrive(), 0, 0}, {exampleDrive(), 1, 1}, {exampleDrive(), 5, 5}, {exampleDrive(), 919, 99}, {exampleDrive(), 920, 100}, {exampleDrive(), math.MaxInt, 100},
		{strong, 0, 0}, {strong, 1, 1}, {strong, 99, 99}, {strong, 100, 100}, {strong, 101, 100}, {strong, math.MaxInt, 100},
		// From a greater speed the rope does not stop in time.
		{slowDrive(0), math.MaxInt, 60}, {slowDrive(0), 3600, 60}, {slowDrive(0), 3599, 59}, {slowDrive(10), math.MaxInt, 50}, {slowDrive(10), 3500, 50}, {slowDrive(10), 3499, 49},
		// It stops from no speed, but it may stand.
		{drive(1000, 0), math.MaxInt, 0}, {drive(1000, 500), math.MaxInt, 0}, {drive(1000, 500), 0, 0}, {drive(1, impl.MaxForce, brake(impl.MaxForce, 0)), 100, 0},
		// No Brake is needed.
		{drive(10, -5), 30, 12}, {drive(10, -5), 29, 11}, {runaway(), math.MaxInt, 100}, {runaway(), 134002700, 100}, {runaway(), 134002699, 99}, {runaway(), 1000, 0},
	}
	for _, c := range cases {
		if n, ok := impl.SafeSpeed(c.d, c.way); !ok || n != c.want {
			t.Errorf("SafeSpeed(%v, %d) = %d, %v, not %d", c.d, c.way, n, ok, c.want)
		}
	}
	for _, way := range append(extremes(), -2) {
		if way >= 0 {
			continue
		}
		for _, d := range []impl.Drive{exampleDrive(), slowDrive(0), drive(1000, 0)} {
			if n, ok := impl.SafeSpeed(d, way); ok || n != 0 {
				t.Errorf("SafeSpeed(%v, %d) = %d, %v", d, way, n, ok)
			}
			if l, ok := impl.FewestBrakes(d, 0, way); ok || len(l) != 0 {
				t.Errorf("FewestBrakes(%v, 0, %d) = %v, %v", d, way, l, ok)
			}
		}
	}
}

func TestSafeSpeedOfManyDrives(t *testing.T) {
	between := 0
	for seed := range 1000 {
		d := driveOf(seed)
		next := numbers(seed + 3)
		ways := []int{}
		for speed := range impl.MaxSpeed + 1 {
			way, ok := wayOf(d, speed, brakesBut(d, -1))
			if !ok {
				way = math.MaxInt
			}
			ways = append(ways, way)
		}
		speed := next(101)
		for _, way := range []int{0, next(100), next(5000), ways[speed], max(ways[speed], 1) - 1, math.MaxInt - 1} {
			want := 0
			for want < impl.MaxSpeed && ways[want+1] <= min(way, math.MaxInt-1) {
				want++
			}
			if n, ok := impl.SafeSpeed(d, way); !ok || n != want {
				t.Fatalf("SafeSpeed(%v, %d) = %d, %v, not %d", d, way, n, ok, want)
			}
			if 0 < want && want < impl.MaxSpeed {
				between++
			}
		}
	}
	if between < 1000 {
		t.Errorf("only %d are between the least and the greatest one", between)
	}
}

func TestHoldsStill(t *testing.T) {
	cases := []struct {
		d    impl.Drive
		want bool
	}{
		{exampleDrive(), true}, {drive(1000, 500), false}, {drive(1000, 0), true}, {drive(1000, 1), false}, {drive(1000, -1), true}, {drive(1, impl.MaxForce), false}, {drive(1, -impl.MaxForce), true},
		{drive(1000, 500, brake(500, 0)), true}, {drive(1000, 500, brake(499, 0)), false}, {drive(1000, 500, brake(501, 0)), true}, {drive(1000, 500, brake(250, 0), brake(250, 0)), true}, {drive(1000, 500, brake(250, 0), brake(249, 0)), false}, {drive(1000, 4, brake(1, 0), brake(1, 1), brake(1, 2), brake(1, 3)), true}, {drive(1000, 5, brake(1, 0), brake(1, 1), brake(1, 2), brake(1, 3)), false},
		// A Delay does not count, nor does the Mass.
		{drive(1000, 500, brake(500, 10)), true}, {drive(1, 500, brake(499, 10)), false}, {drive(100000, 1, brake(1, 10)), true}, {runaway(), true}, {drive(1, impl.MaxForce, brake(impl.MaxForce, 10)), true}, {drive(1, impl.MaxForce, brake(impl.MaxForce-1, 10)), false}, {drive(100000, 1, brake(0, 0)), false},
	}
	for _, c := range cases {
		if y, ok := impl.HoldsStill(c.d); !ok || y != c.want {
			t.Errorf("HoldsStill(%v) = %v, %v, not %v", c.d, y, ok, c.want)
		}
	}
	eachDrive(func(d impl.Drive, _ int) {
		sum := 0
		for _, b := range d.Brakes {
			sum += b.Force
		}
		for _, pull := range []int{d.Pull, sum - 1, sum, sum + 1, -sum} {
			d.Pull = max(min(pull, impl.MaxForce), -impl.MaxForce)
			if y, ok := impl.HoldsStill(d); !ok || y != (sum >= d.Pull) {
				t.Fatalf("HoldsStill(%v) = %v, %v", d, y, ok)
			}
		}
	})
}

func TestWorstPullValues(t *testing.T) {
	d := exampleDrive()
	strong := drive(1, 0, brake(impl.MaxForce, 0), brake(impl.MaxForce, 0))
	cases := []struct {
		d                            impl.Drive
		speed, low, high, pull, want int
	}{
		{d, 20, 0, 10, 0, 40}, {d, 20, 0, 99, 0, 40}, {d, 20, 0, 100, 100, 46}, {d, 20, 400, 500, 500, 70}, {d, 20, 401, 501, 500, 70}, {d, 20, 500, 600, 600, 76}, {d, 20, 500, 500, 500, 70}, {d, 20, -50, 50, 0, 40}, {d, 20, -100, 0, 0, 40}, {d, 20, -101, -1, -100, 38},
		// The whole range of a Pull.
		{d, 20, -100000, -99900, -100000, 20}, {d, 20, -100000, -100000, -100000, 20}, {strong, 7, 99900, 100000, 99900, 7}, {strong, 7, 100000, 100000, 100000, 7}, {tieDrive(0), 7, -100000, -99900, -100000, 7},
		// A rope that stands.
		{d, 0, 1950, 2050, 1950, 0}, {d, 0, -3, 3, -3, 0}, {drive(1, 0), 0, 99900, 100000, 99900, 0},
		// The rope does not stop with the greatest Pull, or with none.
		{d, 20, 1900, 2000, 0, -1}, {d, 20, 2000, 2000, 0, -1}, {d, 20, 1950, 2050, 0, -1}, {d, 20, 99900, 100000, 0, -1}, {drive(1000, 0), 20, -100, 0, 0, -1}, {drive(1000, -500), 20, 0, 0, 0, -1}, {slowDrive(0), 60, 0, 1, 0, -1}, {slowDrive(0), 61, 0, 0, 0, -1},
		// The Pull of the Drive itself does not count.
		{drive(1000, 0), 20, -100, -1, -100, 400}, {drive(1000, 100000, d.Brakes...), 20, 400, 500, 500, 70}, {drive(1000, -100000, d.Brakes...), 20, 400, 500, 500, 70},
		// Too wide, upside down, or not within MaxForce.
		{d, 20, 0, 101, 0, -1}, {d, 20, -51, 50, 0, -1}, {d, 20, 1, 0, 0, -1}, {d, 20, 10, -10, 0, -1}, {d, 20, 500, 499, 0, -1}, {d, 20, -100001, -100000, 0, -1}, {d, 20, -100001, -100001, 0, -1}, {strong, 7, 100000, 100001, 0, -1}, {strong, 7, 100001, 100001, 0, -1}, {d, 0, 0, 101, 0, -1}, {d, 0, 100000, 100001, 0, -1}, {d, 0, -100001, -100000, 0, -1}, {d, 0, 5, 4, 0, -1}, {d, 0, 100000, 99999, 0, -1},
	}
	for _, c := range cases {
		if p, n, ok := impl.WorstPull(c.d, c.speed, c.low, c.high); ok != (c.want >= 0) || p != c.pull || n != max(c.want, 0) {
			t.Errorf("WorstPull(%v, %d, %d, %d) = %d, %d, %v, not %d, %d", c.d, c.speed, c.low, c.high, p, n, ok, c.pull, c.want)
		}
	}
	// The difference of some of these is small only where it leaves the range of int.
	outside := []int{math.MinInt, math.MinInt + 1, math.MinInt + 50, math.MinInt / 2, -200000, 200000, 1 << 62, math.MaxInt - 50, math.MaxInt - 1, math.MaxInt}
	for _, n := range outside {
		for _, m := range append(outside, -100000, -1, 0, 1, 100000) {
			p, way, ok := impl.WorstPull(d, 0, n, m)
			q, other, okToo := impl.WorstPull(d, 0, m, n)
			if ok || okToo || p|way|q|other != 0 {
				t.Errorf("WorstPull(%v, 0, ...) of %d and %d = %d, %d, %v and %d, %d, %v", d, n, m, p, way, ok, q, other, okToo)
			}
		}
	}
}

func TestWorstPullOfManyDrives(t *testing.T) {
	first, inside, none := 0, 0, 0
	for seed := range 2000 {
		d, next := driveOf(seed), numbers(seed+11)
		speed := []int{0, next(20), next(101)}[next(3)]
		low := max(min([]int{d.Pull - next(101), next(200) - 150, -d.Mass}[next(3)], impl.MaxForce-100), -impl.MaxForce)
		high := low + []int{0, next(101), 100}[next(3)]
		worst, longest, stops := low, 0, true
		for pull := high; pull >= low; pull-- {
			way, ok := wayOf(drive(d.Mass, pull, d.Brakes...), speed, brakesBut(d, -1))
			stops = stops && ok
			if way >= longest {
				worst, longest = pull, way
			}
		}
		if !stops {
			worst, longest = 0, 0
		}
		p, n, ok := impl.WorstPull(d, speed, low, high)
		if ok != stops || p != worst || n != longest {
			t.Fatalf("WorstPull(%v, %d, %d, %d) = %d, %d, %v, not %d, %d, %v", d, speed, low, high, p, n, ok, worst, longest, stops)
		}
		switch {
		case !ok:
			none++
		case p == low:
			first++
		default:
			inside++
		}
	}
	if first < 200 || inside < 200 || none < 200 {
		t.Errorf("too few: %d are the first one, %d another one, %d none", first, inside, none)
	}
}

// TestBrakesFailForInvalidDrivesAndSpeeds gives no other invalid argument beside a Drive or a speed.
func TestBrakesFailForInvalidDrivesAndSpeeds(t *testing.T) {
	fails := func(d impl.Drive, speed int) {
		t.Helper()
		speeds, speedsOk := impl.BrakeSpeeds(d, speed)
		way, wayOk := impl.BrakeWay(d, speed)
		without, withoutOk := impl.WayWithout(d, speed, 0)
		index, longest, lossOk := impl.WorstLoss(d, speed)
		few, fewOk := impl.FewestBrakes(d, speed, 100000)
		pull, worst, pullOk := impl.WorstPull(d, speed, -3, 0)
		if speedsOk || wayOk || withoutOk || lossOk || fewOk || pullOk {
			t.Errorf("%.300s, %d is accepted: %v %v %v %v %v %v", fmt.Sprint(d), speed, speedsOk, wayOk, withoutOk, lossOk, fewOk, pullOk)
		}
		if len(speeds)+len(few) != 0 || way|without|index|longest|pull|worst != 0 {
			t.Errorf("%.300s, %d: a result beside false is not zero", fmt.Sprint(d), speed)
		}
	}
	for _, d := range invalidDrives() {
		for _, speed := range append(wrongSpeeds(), 0, 1, 20, 100) {
			fails(d, speed)
		}
		if n, ok := impl.SafeSpeed(d, 100000); ok || n != 0 {
			t.Errorf("SafeSpeed(%.300s) = %d, %v", fmt.Sprint(d), n, ok)
		}
		if y, ok := impl.HoldsStill(d); ok || y {
			t.Errorf("HoldsStill(%.300s) = %v, %v", fmt.Sprint(d), y, ok)
		}
	}
	for _, d := range []impl.Drive{exampleDrive(), drive(1, -impl.MaxForce), drive(1, -impl.MaxForce, brake(5, 0)), tieDrive(100, 100, 100, 100), runaway()} {
		for _, speed := range wrongSpeeds() {
			fails(d, speed)
		}
	}
}

// brakeResults returns the results of all functions of the chapter as text. It fails the test if one
// of them succeeds for an invalid Drive, or returns a result beside false that is not zero.
func brakeResults(t *testing.T, d impl.Drive, n int, m int, k int) string {
	t.Helper()
	valid := impl.IsDrive(d)
	speeds, speedsOk := impl.BrakeSpeeds(d, n)
	way, wayOk := impl.BrakeWay(d, n)
	without, withoutOk := impl.WayWithout(d, n, m)
	index, longest, lossOk := impl.WorstLoss(d, n)
	few, fewOk := impl.FewestBrakes(d, n, m)
	safe, safeOk := impl.SafeSpeed(d, m)
	holds, holdsOk := impl.HoldsStill(d)
	pull, worst, pullOk := impl.WorstPull(d, n, m, k)
	if holdsOk != valid || safeOk != (valid && m >= 0) || wayOk != speedsOk || !valid && (speedsOk || withoutOk || lossOk || fewOk || pullOk) {
		t.Fatalf("%.300s, %d, %d, %d: valid is %v, and a function returns something else", fmt.Sprint(d), n, m, k, valid)
	}
	if !speedsOk && len(speeds) != 0 || !wayOk && way != 0 || !withoutOk && without != 0 || !lossOk && index|longest != 0 || !fewOk && len(few) != 0 || !safeOk && safe != 0 || !holdsOk && holds || !pullOk && pull|worst != 0 {
		t.Fatalf("%.300s, %d, %d, %d: a result beside false is not zero", fmt.Sprint(d), n, m, k)
	}
	return fmt.Sprint(valid, speeds, speedsOk, way, wayOk, without, withoutOk, index, longest, lossOk, few, fewOk, safe, safeOk, holds, holdsOk, pull, worst, pullOk)
}

// TestBrakesReturnForAllArguments gives valid and invalid arguments to every function of the
// chapter, with Brakes as parts of longer lists, and expects that nothing in these lists changes,
// that what stands behind them does not count, and that a second call returns the same.
func TestBrakesReturnForAllArguments(t *testing.T) {
	tried := append(extremes(), 0, 1, 2, 3, 4, 20, 60, 99, 100, 101, 100000, 100001)
	check := func(d impl.Drive, n, m, k int) {
		t.Helper()
		memory := append(slices.Clone(d.Brakes), brake(impl.MaxForce, 0), brake(math.MinInt, math.MaxInt))
		before := slices.Clone(memory)
		first := brakeResults(t, copyOfDrive(d), n, m, k)
		if second := brakeResults(t, drive(d.Mass, d.Pull, memory[:len(d.Brakes)]...), n, m, k); second != first {
			t.Fatalf("%.300s and then %.300s", first, second)
		}
		if !slices.Equal(memory, before) {
			t.Fatalf("the argument %.300s is changed", fmt.Sprint(d))
		}
	}
	for seed := range 500 {
		d := driveOf(seed)
		for i, n := range tried {
			check(d, n, tried[(i+seed)%len(tried)], seed)
			check(d, seed%101, n, n)
			check(d, seed%101, 0, n)
		}
	}
	for _, d := range append(invalidDrives(), exampleDrive(), runaway(), slowDrive(10), drive(1, 0), impl.Drive{Mass: 1, Brakes: []impl.Brake{}}) {
		for _, n := range tried {
			check(d, n, 0, 1)
			check(d, 20, n, n)
			check(d, 0, 0, n)
			check(d, n, n, n)
		}
	}
}

// TestBrakesReturnNewMemory changes the results, and behind their length, and expects that neither
// the argument nor a later result changes with them.
func TestBrakesReturnNewMemory(t *testing.T) {
	memory := []impl.Brake{brake(5, 0), brake(5, 1), brake(5, 2), brake(5, 3)}
	before := slices.Clone(memory)
	speeds := func(d impl.Drive) ([]int, bool) { return impl.BrakeSpeeds(d, 12) }
	few := func(d impl.Drive) ([]int, bool) { return impl.FewestBrakes(d, 12, 1000) }
	most := func(d impl.Drive) ([]int, bool) {
		way, _ := impl.BrakeWay(d, 40)
		return impl.FewestBrakes(d, 40, way)
	}
	for count := 1; count <= len(memory); count++ {
		d := drive(10, 0, memory[:count]...)
		for i, f := range []func(impl.Drive) ([]int, bool){speeds, few, most} {
			one, ok := f(d)
			two, _ := f(d)
			kept := slices.Clone(two)
			if !ok || !slices.Equal(one, two) {
				t.Fatalf("%v: %v, %v and then %v", d, one, ok, two)
			}
			clear(append(one, 77, 78))
			clear(one[:cap(one)])
			if three, _ := f(d); !slices.Equal(memory, before) || !slices.Equal(two, kept) || !slices.Equal(three, kept) {
				t.Errorf("a result of the function %d of %v shares memory", i, d)
			}
		}
	}
}
