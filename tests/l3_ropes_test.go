package tests

import (
	"fmt"
	"math"
	"slices"
	"testing"

	"loop.example/g00935/impl"
)

// sixtyWires is a kind of which 5 percent of all wires are exactly 3.
func sixtyWires() impl.RopeKind {
	return impl.RopeKind{Id: 1, Strands: 6, Wires: 10, Weight: 45, Strong: 1000}
}

func damage(at, strand, wires int) impl.Damage {
	return impl.Damage{At: at, Strand: strand, Wires: wires}
}

// ropeKindsInUse have as many wires as a kind can have, as few, and numbers of which 5 percent are
// whole and not whole.
func ropeKindsInUse() []impl.RopeKind {
	return []impl.RopeKind{
		sixtyWires(), {Id: 1, Strands: 4, Wires: 7, Weight: 10, Strong: 10}, {Id: 20, Strands: 8, Wires: 40, Weight: 500, Strong: 5000},
		{Id: 7, Strands: 8, Wires: 7, Weight: 11, Strong: 999}, {Id: 9, Strands: 4, Wires: 40, Weight: 99, Strong: 13}, {Id: 2, Strands: 5, Wires: 13, Weight: 33, Strong: 771},
	}
}

// numbers returns a function that returns a number in 0..n-1, always the same ones for a seed.
func numbers(seed int) func(n int) int {
	state := uint64(seed)*2654435761 + 12345
	return func(n int) int {
		state = state*6364136223846793005 + 1442695040888963407
		return int(state>>33) % n
	}
}

// damagesOf returns Damages of a kind that lie close to each other, or far away, with many in
// different Strands at the same place.
func damagesOf(k impl.RopeKind, seed int) []impl.Damage {
	next := numbers(seed)
	spread := []int{2, 12, 40, 150, impl.MaxPlace + 1}[next(5)]
	base := next(impl.MaxPlace + 2 - spread)
	most := 1 + next(k.Wires)
	list := []impl.Damage{}
	for range next(impl.MaxDamages + 1) {
		d := damage(base+next(spread), next(k.Strands), 1+next(most))
		taken := slices.ContainsFunc(list, func(o impl.Damage) bool { return o.At == d.At && o.Strand == d.Strand })
		if !taken {
			list = append(list, d)
		}
	}
	slices.SortFunc(list, func(a, b impl.Damage) int { return (a.At-b.At)*100 + a.Strand - b.Strand })
	return list
}

// mostDamages has as many Damages as a list can have, and meets every limit of its numbers.
func mostDamages(k impl.RopeKind) []impl.Damage {
	list := []impl.Damage{}
	for i := range impl.MaxDamages {
		list = append(list, damage(i/2*impl.MaxPlace/7, i%2*(k.Strands-1), 1+i%2*(k.Wires-1)))
	}
	return list
}

// eachDamages calls f with a kind and Damages of it, many times.
func eachDamages(f func(k impl.RopeKind, damages []impl.Damage)) {
	for _, k := range ropeKindsInUse() {
		f(k, nil)
		f(k, mostDamages(k))
		for seed := range 400 {
			f(k, damagesOf(k, seed))
		}
	}
}

// extremes are numbers with which sums and products may leave the range of int.
func extremes() []int {
	return []int{math.MinInt, math.MinInt + 1, math.MinInt / 2, -3000, -1, 1 << 32, 1 << 62, math.MaxInt - 1, math.MaxInt}
}

// invalidKinds returns kinds that break one rule each, as far as possible.
func invalidKinds() []impl.RopeKind {
	kinds := []impl.RopeKind{{}}
	for i, wrong := range [][]int{{0, 21}, {3, 9, 0}, {6, 41, 0}, {9, 501, 0}, {9, 5001, 0}} {
		for _, n := range append(wrong, extremes()...) {
			k := sixtyWires()
			*[]*int{&k.Id, &k.Strands, &k.Wires, &k.Weight, &k.Strong}[i] = n
			kinds = append(kinds, k)
		}
	}
	return kinds
}

// invalidDamages returns Damages that are invalid for sixtyWires.
func invalidDamages() []impl.Damage {
	list := []impl.Damage{{}, damage(-1, 0, 1), damage(impl.MaxPlace+1, 0, 1), damage(5, -1, 1), damage(5, 6, 1), damage(5, 0, 0), damage(5, 0, -1), damage(5, 0, 11)}
	for _, n := range extremes() {
		list = append(list, damage(n, 0, 1), damage(5, n, 1), damage(5, 0, n), damage(n, n, n))
	}
	return list
}

// invalidDamageLists returns lists that break one rule each for sixtyWires.
func invalidDamageLists() [][]impl.Damage {
	sixteen := []impl.Damage{}
	for i := range impl.MaxDamages + 1 {
		sixteen = append(sixteen, damage(i, 0, 1))
	}
	lists := [][]impl.Damage{
		sixteen, make([]impl.Damage, 100000),
		{damage(5, 0, 1), damage(5, 0, 1)}, {damage(5, 0, 1), damage(5, 0, 2)}, {damage(5, 1, 1), damage(5, 0, 1)}, {damage(5, 0, 1), damage(4, 0, 1)},
		{damage(5, 0, 1), damage(4, 1, 1)}, {damage(1, 0, 1), damage(7, 0, 1), damage(6, 5, 1)}, {damage(1, 0, 1), damage(7, 3, 1), damage(7, 3, 2), damage(8, 0, 1)},
	}
	for _, d := range invalidDamages() {
		lists = append(lists, []impl.Damage{d}, []impl.Damage{damage(0, 0, 1), d}, []impl.Damage{d, damage(3000, 5, 1)}, []impl.Damage{damage(0, 0, 1), d, damage(3000, 5, 1)})
	}
	return lists
}

func TestIsRopeKindAcceptsUpToTheLimits(t *testing.T) {
	for i, limits := range [][]int{{1, 20, 11}, {4, 8, 6}, {7, 40, 19}, {10, 500, 250}, {10, 5000, 99}} {
		for _, n := range limits {
			k := sixtyWires()
			*[]*int{&k.Id, &k.Strands, &k.Wires, &k.Weight, &k.Strong}[i] = n
			if !impl.IsRopeKind(k) || !impl.AreRopeKinds([]impl.RopeKind{k}) {
				t.Errorf("%+v is not valid", k)
			}
		}
	}
	for _, k := range ropeKindsInUse() {
		if !impl.IsRopeKind(k) {
			t.Errorf("%+v is not valid", k)
		}
	}
	for _, k := range invalidKinds() {
		if impl.IsRopeKind(k) || impl.AreRopeKinds([]impl.RopeKind{k}) {
			t.Errorf("%+v is valid", k)
		}
	}
}

// kindsWith returns a list of kinds with these Ids.
func kindsWith(ids ...int) []impl.RopeKind {
	list := []impl.RopeKind{}
	for _, id := range ids {
		k := sixtyWires()
		k.Id = id
		list = append(list, k)
	}
	return list
}

func TestAreRopeKinds(t *testing.T) {
	for _, ids := range [][]int{nil, {1}, {20}, {1, 2}, {1, 20}, {3, 4, 9}, {1, 2, 3, 4, 5, 6}, {15, 16, 17, 18, 19, 20}} {
		if !impl.AreRopeKinds(kindsWith(ids...)) {
			t.Errorf("the Ids %v are not valid", ids)
		}
	}
	for _, ids := range [][]int{{0}, {21}, {1, 1}, {2, 1}, {1, 3, 2}, {1, 2, 2}, {2, 2, 3}, {0, 1}, {20, 21}, {1, 2, 3, 4, 5, 6, 7}, {1, 2, 3, 4, 5, 5}} {
		if impl.AreRopeKinds(kindsWith(ids...)) {
			t.Errorf("the Ids %v are valid", ids)
		}
	}
	for _, k := range invalidKinds() {
		list := kindsWith(1, 2, 3)
		if k.Id == 1 {
			k.Id = 2
		}
		list[1] = k
		if impl.AreRopeKinds(list) {
			t.Errorf("%+v is valid in a list", k)
		}
	}
	if !impl.AreRopeKinds(nil) || impl.AreRopeKinds(make([]impl.RopeKind, 100000)) {
		t.Error("no kinds, or too many")
	}
}

func TestAreDamages(t *testing.T) {
	eachDamages(func(k impl.RopeKind, damages []impl.Damage) {
		if !impl.AreDamages(k, damages) {
			t.Fatalf("AreDamages(%+v, %v) is false", k, damages)
		}
	})
	k := sixtyWires()
	for _, damages := range [][]impl.Damage{
		{damage(0, 0, 1)}, {damage(3000, 5, 10)}, {damage(5, 0, 1), damage(5, 1, 1)}, {damage(5, 4, 1), damage(5, 5, 1), damage(6, 0, 1)}, {damage(5, 5, 1), damage(6, 4, 1)},
	} {
		if !impl.AreDamages(k, damages) {
			t.Errorf("%v is not valid", damages)
		}
		for _, wrong := range invalidKinds() {
			if impl.AreDamages(wrong, damages) {
				t.Errorf("%v is valid for %+v", damages, wrong)
			}
		}
	}
	for _, damages := range invalidDamageLists() {
		if impl.AreDamages(k, damages) {
			t.Errorf("%.200s is valid", fmt.Sprint(damages))
		}
	}
	for _, k := range ropeKindsInUse() {
		if impl.AreDamages(k, []impl.Damage{damage(5, k.Strands, 1)}) || impl.AreDamages(k, []impl.Damage{damage(5, 0, k.Wires+1)}) {
			t.Errorf("%+v takes a Damage beside its limits", k)
		}
	}
	for _, wrong := range invalidKinds() {
		if impl.AreDamages(wrong, nil) {
			t.Errorf("no Damages are valid for %+v", wrong)
		}
	}
}

func TestBrokenWiresAtTheEndsOfAWindow(t *testing.T) {
	k := sixtyWires()
	damages := []impl.Damage{damage(0, 0, 1), damage(5, 0, 2), damage(5, 3, 4), damage(14, 1, 8), damage(3000, 5, 10)}
	cases := []struct{ from, length, want int }{
		{5, 1, 6}, {5, 9, 6}, {5, 10, 14}, {4, 1, 0}, {4, 10, 6}, {4, 11, 14}, {6, 8, 0}, {6, 9, 8}, {0, 1, 1}, {0, 5, 1}, {0, 6, 7}, {0, 14, 7}, {0, 15, 15},
		{14, 1, 8}, {15, 2985, 0}, {15, 2986, 10}, {3000, 1, 10}, {3000, 3000, 10}, {2999, 1, 0}, {2999, 2, 10}, {0, 3000, 15}, {1, 3000, 24}, {1, 2999, 14},
	}
	for _, c := range cases {
		if n, ok := impl.BrokenWires(k, damages, c.from, c.length); !ok || n != c.want {
			t.Errorf("BrokenWires(%d, %d) = %d, %v, not %d", c.from, c.length, n, ok, c.want)
		}
	}
	if n, ok := impl.BrokenWires(k, nil, 0, 10); !ok || n != 0 {
		t.Errorf("BrokenWires of no Damages = %d, %v", n, ok)
	}
	for _, wrong := range append(extremes(), impl.MaxPlace+1) {
		if n, ok := impl.BrokenWires(k, damages, wrong, 10); ok || n != 0 {
			t.Errorf("BrokenWires from %d = %d, %v", wrong, n, ok)
		}
	}
	for _, wrong := range append(extremes(), impl.MaxPlace+1, 0) {
		if n, ok := impl.BrokenWires(k, damages, 5, wrong); ok || n != 0 {
			t.Errorf("BrokenWires of the length %d = %d, %v", wrong, n, ok)
		}
		if at, n, ok := impl.WorstWindow(k, damages, wrong); ok || at != 0 || n != 0 {
			t.Errorf("WorstWindow of the length %d = %d, %d, %v", wrong, at, n, ok)
		}
	}
}

// brokenAt returns for each place of the rope the number of its broken wires.
func brokenAt(damages []impl.Damage) []int {
	broken := make([]int, impl.MaxPlace+1)
	for _, d := range damages {
		broken[d.At] += d.Wires
	}
	return broken
}

// windowLengths are lengths of windows in which Damages lie close to the ends.
var windowLengths = []int{1, 2, 3, 10, 11, 39, 100, 149, 2999, impl.MaxPlace}

// TestNoWindowHasMoreBrokenWiresThanTheWorstOne looks at the window from every place on.
func TestNoWindowHasMoreBrokenWiresThanTheWorstOne(t *testing.T) {
	eachDamages(func(k impl.RopeKind, damages []impl.Damage) {
		if len(damages) == 0 {
			return
		}
		broken := brokenAt(damages)
		for _, length := range windowLengths {
			at, most, ok := impl.WorstWindow(k, damages, length)
			if !ok {
				t.Fatalf("WorstWindow(%+v, %v, %d) fails", k, damages, length)
			}
			inside := 0
			for from := impl.MaxPlace; from >= 0; from-- {
				inside += broken[from]
				if from+length <= impl.MaxPlace {
					inside -= broken[from+length]
				}
				if inside > most {
					t.Fatalf("WorstWindow(%+v, %v, %d) = %d, but from %d on there are %d", k, damages, length, most, from, inside)
				}
			}
			if n, ok := impl.BrokenWires(k, damages, at, length); !ok || n != most {
				t.Fatalf("WorstWindow(%+v, %v, %d) = %d, %d, but BrokenWires from there on are %d", k, damages, length, at, most, n)
			}
		}
	})
}

func TestWorstWindowBeginsWithTheFirstDamageOfTheWorst(t *testing.T) {
	eachDamages(func(k impl.RopeKind, damages []impl.Damage) {
		for _, length := range windowLengths {
			at, most, ok := impl.WorstWindow(k, damages, length)
			wantAt, wantMost := 0, 0
			for _, d := range damages {
				if n, _ := impl.BrokenWires(k, damages, d.At, length); n > wantMost {
					wantAt, wantMost = d.At, n
				}
			}
			if ok != (len(damages) > 0) || at != wantAt || most != wantMost {
				t.Fatalf("WorstWindow(%+v, %v, %d) = %d, %d, %v, not %d, %d", k, damages, length, at, most, ok, wantAt, wantMost)
			}
		}
	})
}

func TestWorstWindowValues(t *testing.T) {
	k := sixtyWires()
	cases := []struct {
		damages          []impl.Damage
		length, at, most int
	}{
		{[]impl.Damage{damage(0, 0, 1)}, 1, 0, 1}, {[]impl.Damage{damage(3000, 5, 10)}, 3000, 3000, 10},
		{[]impl.Damage{damage(5, 0, 1), damage(14, 0, 1)}, 10, 5, 2}, {[]impl.Damage{damage(5, 0, 1), damage(15, 0, 1)}, 10, 5, 1},
		{[]impl.Damage{damage(5, 0, 1), damage(14, 0, 1)}, 9, 5, 1}, {[]impl.Damage{damage(5, 0, 1), damage(15, 0, 2)}, 10, 15, 2},
		{[]impl.Damage{damage(5, 0, 1), damage(5, 1, 1), damage(9, 0, 2)}, 1, 5, 2}, {[]impl.Damage{damage(5, 0, 1), damage(5, 1, 1), damage(9, 0, 3)}, 1, 9, 3},
		{[]impl.Damage{damage(0, 0, 2), damage(6, 0, 3), damage(12, 0, 2)}, 10, 0, 5}, {[]impl.Damage{damage(0, 0, 2), damage(6, 0, 3), damage(12, 0, 3)}, 10, 6, 6},
		{[]impl.Damage{damage(0, 0, 10), damage(9, 0, 10), damage(10, 0, 10), damage(18, 0, 10)}, 10, 9, 30},
		{mostDamages(k), 3000, 0, 7 * 11}, // the last one is at 3000, behind the window
	}
	for _, c := range cases {
		if at, most, ok := impl.WorstWindow(k, c.damages, c.length); !ok || at != c.at || most != c.most {
			t.Errorf("WorstWindow(%v, %d) = %d, %d, %v, not %d, %d", c.damages, c.length, at, most, ok, c.at, c.most)
		}
	}
	for _, none := range [][]impl.Damage{nil, {}} {
		if at, most, ok := impl.WorstWindow(k, none, 10); ok || at != 0 || most != 0 {
			t.Errorf("WorstWindow of no Damages = %d, %d, %v", at, most, ok)
		}
	}
}

func TestRopeVerdictAtTheThresholds(t *testing.T) {
	k := sixtyWires()
	odd := impl.RopeKind{Id: 2, Strands: 5, Wires: 13, Weight: 33, Strong: 771} // 5 percent of its 65 wires are 3.25
	cases := []struct {
		kind    impl.RopeKind
		damages []impl.Damage
		want    string
	}{
		{k, nil, "good"}, {k, []impl.Damage{damage(5, 0, 3)}, "good"}, {k, []impl.Damage{damage(5, 0, 4)}, "replace"},
		{k, []impl.Damage{damage(5, 0, 2), damage(14, 1, 2)}, "replace"}, {k, []impl.Damage{damage(5, 0, 2), damage(15, 1, 2)}, "watch"},
		{k, []impl.Damage{damage(5, 0, 2), damage(104, 1, 2)}, "watch"}, {k, []impl.Damage{damage(5, 0, 2), damage(105, 1, 2)}, "good"},
		{k, []impl.Damage{damage(5, 0, 1), damage(50, 1, 2), damage(104, 1, 1)}, "watch"}, {k, []impl.Damage{damage(5, 0, 1), damage(50, 1, 2), damage(105, 1, 1)}, "good"},
		{k, []impl.Damage{damage(0, 0, 3), damage(100, 1, 3), damage(200, 2, 3), damage(300, 3, 3)}, "good"},
		{k, []impl.Damage{damage(0, 0, 3), damage(10, 1, 3), damage(20, 2, 3), damage(30, 3, 3)}, "watch"},
		{k, []impl.Damage{damage(0, 0, 3), damage(10, 1, 3), damage(20, 2, 3), damage(29, 3, 1)}, "replace"},
		{k, []impl.Damage{damage(7, 0, 1), damage(7, 1, 1), damage(7, 2, 1), damage(7, 3, 1)}, "replace"},
		{k, []impl.Damage{damage(5, 2, 3), damage(9, 2, 3)}, "replace"}, {k, []impl.Damage{damage(2991, 0, 2), damage(3000, 1, 2)}, "replace"},
		{k, []impl.Damage{damage(2990, 0, 2), damage(3000, 1, 2)}, "watch"},
		{odd, []impl.Damage{damage(5, 0, 3)}, "good"}, {odd, []impl.Damage{damage(5, 0, 4)}, "replace"},
		{odd, []impl.Damage{damage(5, 0, 3), damage(15, 0, 1)}, "watch"}, {odd, []impl.Damage{damage(5, 0, 3), damage(105, 0, 1)}, "good"},
	}
	for _, c := range cases {
		if s, ok := impl.RopeVerdict(c.kind, c.damages); !ok || s != c.want {
			t.Errorf("RopeVerdict(%v) = %q, %v, not %q", c.damages, s, ok, c.want)
		}
	}
}

// TestRopeVerdictOfStrandsOfTheirOwn breaks one wire more than half of a Strand, in pieces across
// a window. It leaves open whether the rule for a Strand or that for all wires decides, because
// for every valid kind the first one implies the second one.
func TestRopeVerdictOfStrandsOfTheirOwn(t *testing.T) {
	for strands := 4; strands <= 8; strands++ {
		for wires := 7; wires <= 40; wires++ {
			k := impl.RopeKind{Id: 1, Strands: strands, Wires: wires, Weight: 10, Strong: 10}
			more := wires/2 + 1
			for strand := range strands {
				damages := []impl.Damage{damage(20, strand, 1), damage(29, strand, more-1)}
				if s, ok := impl.RopeVerdict(k, damages); !ok || s != "replace" {
					t.Fatalf("RopeVerdict(%+v, %v) = %q, %v", k, damages, s, ok)
				}
			}
		}
	}
}

// verdictOf counts all wires, and those of each Strand, in every window of the rope.
func verdictOf(k impl.RopeKind, damages []impl.Damage) string {
	verdict := "good"
	for from := range impl.MaxPlace + 1 {
		short, long := 0, 0
		ofStrand := map[int]int{}
		for _, d := range damages {
			if d.At >= from && d.At <= from+9 {
				short += d.Wires
				ofStrand[d.Strand] += d.Wires
			}
			if d.At >= from && d.At <= from+99 {
				long += d.Wires
			}
		}
		for _, n := range ofStrand {
			if n > k.Wires-n {
				return "replace"
			}
		}
		if short*20 > k.Strands*k.Wires {
			return "replace"
		}
		if long*20 > k.Strands*k.Wires {
			verdict = "watch"
		}
	}
	return verdict
}

func TestRopeVerdictOfEveryWindow(t *testing.T) {
	seen := map[string]int{}
	check := func(k impl.RopeKind, damages []impl.Damage) {
		want := verdictOf(k, damages)
		if s, ok := impl.RopeVerdict(k, damages); !ok || s != want {
			t.Fatalf("RopeVerdict(%+v, %v) = %q, %v, not %q", k, damages, s, ok, want)
		}
		seen[want]++
	}
	eachDamages(check)
	// Damages of one wire or two each lie closer to the thresholds.
	for seed := range 500 {
		k := ropeKindsInUse()[seed%6]
		damages := damagesOf(k, seed)
		for i := range damages {
			damages[i].Wires = 1 + i%2
		}
		check(k, damages)
	}
	if len(seen) != 3 || seen["watch"] < 100 || seen["good"] < 100 || seen["replace"] < 100 {
		t.Errorf("the verdicts are not mixed: %v", seen)
	}
}

func TestStrengthLeftValues(t *testing.T) {
	k := sixtyWires()
	small := impl.RopeKind{Id: 1, Strands: 4, Wires: 7, Weight: 10, Strong: 11}
	cases := []struct {
		kind    impl.RopeKind
		damages []impl.Damage
		want    int
	}{
		{k, nil, 1000}, {k, []impl.Damage{damage(5, 0, 1)}, 983}, {k, []impl.Damage{damage(5, 0, 3)}, 950},
		{k, []impl.Damage{damage(5, 0, 3), damage(14, 0, 3)}, 900}, {k, []impl.Damage{damage(5, 0, 3), damage(15, 0, 4)}, 933},
		{small, []impl.Damage{damage(5, 0, 7), damage(5, 1, 7), damage(5, 2, 7), damage(5, 3, 4)}, 1},
		{small, []impl.Damage{damage(5, 0, 7), damage(5, 1, 7), damage(5, 2, 7), damage(5, 3, 5)}, 0},
		{small, []impl.Damage{damage(5, 0, 7), damage(5, 1, 7), damage(5, 2, 7), damage(5, 3, 7)}, 0},
		{small, []impl.Damage{damage(5, 0, 7), damage(5, 1, 7), damage(5, 2, 7), damage(5, 3, 7), damage(6, 0, 1)}, 0},
		{small, []impl.Damage{damage(5, 0, 7), damage(6, 0, 7), damage(7, 0, 7), damage(8, 0, 7), damage(9, 0, 7), damage(10, 0, 7), damage(11, 0, 7)}, 0},
		{small, []impl.Damage{damage(5, 0, 1)}, 10}, {small, []impl.Damage{damage(5, 0, 2)}, 10}, {small, []impl.Damage{damage(5, 0, 3)}, 9},
	}
	for _, c := range cases {
		if n, ok := impl.StrengthLeft(c.kind, c.damages); !ok || n != c.want {
			t.Errorf("StrengthLeft(%v) = %d, %v, not %d", c.damages, n, ok, c.want)
		}
	}
}

func TestStrengthLeftOfTheWorstWindow(t *testing.T) {
	eachDamages(func(k impl.RopeKind, damages []impl.Damage) {
		_, most, _ := impl.WorstWindow(k, damages, 10)
		all := k.Strands * k.Wires
		n, ok := impl.StrengthLeft(k, damages)
		rest := k.Strong*(all-most) - n*all
		if !ok || n < 0 || n > k.Strong || most <= all && (rest < 0 || rest >= all) || most > all && n != 0 {
			t.Fatalf("StrengthLeft(%+v, %v) = %d, %v", k, damages, n, ok)
		}
	})
}

func TestRopeWeight(t *testing.T) {
	cases := []struct{ weight, meters, want int }{
		{45, 0, 0}, {45, 1, 5}, {45, 2, 9}, {45, 3, 14}, {45, 1000, 4500}, {45, 20000, 90000}, {10, 1, 1}, {11, 1, 2}, {19, 1, 2}, {20, 1, 2},
		{10, 20000, 20000}, {500, 20000, 1000000}, {500, 0, 0}, {33, 19999, 65997}, {499, 7, 350}, {101, 9, 91},
	}
	k := sixtyWires()
	for _, c := range cases {
		k.Weight = c.weight
		if n, ok := impl.RopeWeight(k, c.meters); !ok || n != c.want {
			t.Errorf("RopeWeight(%d, %d) = %d, %v, not %d", c.weight, c.meters, n, ok, c.want)
		}
	}
	for _, k := range ropeKindsInUse() {
		for meters := 0; meters <= 20000; meters += 1 + meters/50 {
			n, ok := impl.RopeWeight(k, meters)
			if over := n*10 - k.Weight*meters; !ok || over < 0 || over > 9 {
				t.Fatalf("RopeWeight(%+v, %d) = %d, %v", k, meters, n, ok)
			}
		}
	}
	for _, meters := range append(extremes(), 20001) {
		if n, ok := impl.RopeWeight(k, meters); ok || n != 0 {
			t.Errorf("RopeWeight(%d) = %d, %v", meters, n, ok)
		}
	}
	for _, wrong := range invalidKinds() {
		if n, ok := impl.RopeWeight(wrong, 10); ok || n != 0 {
			t.Errorf("RopeWeight(%+v) = %d, %v", wrong, n, ok)
		}
	}
}

func TestLightestKindValues(t *testing.T) {
	list := kindsWith(2, 5, 7, 11, 13, 20)
	for i, weights := range []int{300, 200, 200, 100, 250, 200} {
		list[i].Weight = weights
		list[i].Strong = []int{5000, 800, 900, 500, 900, 1000}[i]
	}
	cases := []struct{ strong, want int }{
		{1, 11}, {10, 11}, {499, 11}, {500, 11}, {501, 5}, {800, 5}, {801, 7}, {900, 7}, {901, 20}, {1000, 20}, {1001, 2}, {5000, 2},
	}
	for _, c := range cases {
		if id, ok := impl.LightestKind(list, c.strong); !ok || id != c.want {
			t.Errorf("LightestKind(%d) = %d, %v, not %d", c.strong, id, ok, c.want)
		}
	}
	if id, ok := impl.LightestKind(list[1:], 1001); ok || id != 0 {
		t.Errorf("LightestKind of none = %d, %v", id, ok)
	}
	if id, ok := impl.LightestKind(nil, 1); ok || id != 0 {
		t.Errorf("LightestKind of no kinds = %d, %v", id, ok)
	}
	for _, strong := range append(extremes(), 0, 5001) {
		if id, ok := impl.LightestKind(list, strong); ok || id != 0 {
			t.Errorf("LightestKind(%d) = %d, %v", strong, id, ok)
		}
	}
	invalid := [][]impl.RopeKind{kindsWith(1, 1), kindsWith(2, 1), kindsWith(1, 2, 3, 4, 5, 6, 7), kindsWith(0), kindsWith(1, 21), make([]impl.RopeKind, 100000)}
	for _, k := range invalidKinds() {
		invalid = append(invalid, []impl.RopeKind{k})
	}
	for _, wrong := range invalid {
		if id, ok := impl.LightestKind(wrong, 1); ok || id != 0 {
			t.Errorf("LightestKind(%.200s) = %d, %v", fmt.Sprint(wrong), id, ok)
		}
	}
}

func TestLightestKindOfManyLists(t *testing.T) {
	for seed := range 3000 {
		next := numbers(seed)
		list := kindsWith([]int{1, 2, 3, 4, 5, 6}[next(6):]...)
		for i := range list {
			list[i].Weight, list[i].Strong = 10+next(4), 10+next(6)
		}
		strong := 8 + next(10)
		want := 0
		for weight := 13; weight >= 10; weight-- {
			for i := len(list) - 1; i >= 0; i-- {
				if list[i].Weight == weight && list[i].Strong >= strong {
					want = list[i].Id
				}
			}
		}
		if id, ok := impl.LightestKind(list, strong); ok != (want != 0) || id != want {
			t.Fatalf("LightestKind(%v, %d) = %d, %v, not %d", list, strong, id, ok, want)
		}
	}
}

func TestAddDamageValues(t *testing.T) {
	k := sixtyWires()
	damages := []impl.Damage{damage(5, 1, 2), damage(5, 3, 9), damage(8, 0, 10)}
	cases := []struct {
		d    impl.Damage
		want []impl.Damage
	}{
		{damage(5, 1, 1), []impl.Damage{damage(5, 1, 3), damage(5, 3, 9), damage(8, 0, 10)}},
		{damage(5, 1, 8), []impl.Damage{damage(5, 1, 10), damage(5, 3, 9), damage(8, 0, 10)}},
		{damage(5, 3, 1), []impl.Damage{damage(5, 1, 2), damage(5, 3, 10), damage(8, 0, 10)}},
		{damage(5, 0, 10), []impl.Damage{damage(5, 0, 10), damage(5, 1, 2), damage(5, 3, 9), damage(8, 0, 10)}},
		{damage(5, 2, 4), []impl.Damage{damage(5, 1, 2), damage(5, 2, 4), damage(5, 3, 9), damage(8, 0, 10)}},
		{damage(5, 5, 4), []impl.Damage{damage(5, 1, 2), damage(5, 3, 9), damage(5, 5, 4), damage(8, 0, 10)}},
		{damage(0, 5, 1), []impl.Damage{damage(0, 5, 1), damage(5, 1, 2), damage(5, 3, 9), damage(8, 0, 10)}},
		{damage(7, 5, 1), []impl.Damage{damage(5, 1, 2), damage(5, 3, 9), damage(7, 5, 1), damage(8, 0, 10)}},
		{damage(8, 1, 1), []impl.Damage{damage(5, 1, 2), damage(5, 3, 9), damage(8, 0, 10), damage(8, 1, 1)}},
		{damage(3000, 0, 1), []impl.Damage{damage(5, 1, 2), damage(5, 3, 9), damage(8, 0, 10), damage(3000, 0, 1)}},
	}
	for _, c := range cases {
		if list, ok := impl.AddDamage(k, damages, c.d); !ok || !slices.Equal(list, c.want) {
			t.Errorf("AddDamage(%v) = %v, %v, not %v", c.d, list, ok, c.want)
		}
	}
	for _, d := range append(invalidDamages(), damage(5, 1, 9), damage(5, 3, 2), damage(8, 0, 1), damage(5, 1, -1), damage(5, 3, 0), damage(5, 1, math.MinInt)) {
		if list, ok := impl.AddDamage(k, damages, d); ok || len(list) != 0 {
			t.Errorf("AddDamage(%v) = %v, %v", d, list, ok)
		}
	}
	if list, ok := impl.AddDamage(k, nil, damage(0, 0, 1)); !ok || !slices.Equal(list, []impl.Damage{damage(0, 0, 1)}) {
		t.Errorf("AddDamage to no Damages = %v, %v", list, ok)
	}
}

func TestAddDamageToAFullList(t *testing.T) {
	k := sixtyWires()
	full := []impl.Damage{}
	for i := range impl.MaxDamages {
		list, ok := impl.AddDamage(k, full, damage(7*i%impl.MaxDamages, 1, 1+i%k.Wires))
		if !ok || len(list) != i+1 || !impl.AreDamages(k, list) {
			t.Fatalf("AddDamage = %v, %v", list, ok)
		}
		full = list
	}
	if list, ok := impl.AddDamage(k, full, damage(0, 0, 1)); ok || len(list) != 0 {
		t.Errorf("AddDamage to a full list = %v, %v", list, ok)
	}
	if list, ok := impl.AddDamage(k, full, damage(0, 1, 1)); !ok || len(list) != impl.MaxDamages || list[0] != damage(0, 1, 2) || !slices.Equal(list[1:], full[1:]) {
		t.Errorf("AddDamage to a Damage of a full list = %v, %v", list, ok)
	}
}

// ropeResults returns the results of all functions of the chapter that take Damages as text. It
// fails the test if one of them fails for valid arguments, succeeds for invalid ones, or returns a
// result beside false that is not zero.
func ropeResults(t *testing.T, k impl.RopeKind, damages []impl.Damage) string {
	t.Helper()
	valid := impl.AreDamages(k, damages)
	broken, brokenOk := impl.BrokenWires(k, damages, 5, 10)
	at, most, worstOk := impl.WorstWindow(k, damages, 10)
	verdict, verdictOk := impl.RopeVerdict(k, damages)
	strength, strengthOk := impl.StrengthLeft(k, damages)
	added, addedOk := impl.AddDamage(k, damages, damage(4, 0, 1))
	if brokenOk != valid || verdictOk != valid || strengthOk != valid || worstOk != (valid && len(damages) > 0) || addedOk && !valid {
		t.Fatalf("%+v, %.300s: valid is %v, and a function returns something else", k, fmt.Sprint(damages), valid)
	}
	if !valid && (broken != 0 || verdict != "" || strength != 0) || !worstOk && (at != 0 || most != 0) || !addedOk && len(added) != 0 {
		t.Fatalf("%+v, %.300s: a result beside false is not zero", k, fmt.Sprint(damages))
	}
	return fmt.Sprint(valid, broken, at, most, verdict, strength, added, addedOk)
}

// TestRopesReturnForAllArguments gives valid and invalid arguments to every function of the
// chapter, as a part of a longer list, and expects that nothing in this list changes, that what
// stands behind the Damages does not count, and that a second call returns the same.
func TestRopesReturnForAllArguments(t *testing.T) {
	behind := []impl.Damage{damage(9, 0, 5), damage(-1, 99, math.MaxInt), damage(math.MinInt, 0, 0)}
	check := func(k impl.RopeKind, damages []impl.Damage) {
		memory := append(slices.Clone(damages), behind...)
		before := slices.Clone(memory)
		first := ropeResults(t, k, slices.Clone(damages))
		if second := ropeResults(t, k, memory[:len(damages)]); second != first {
			t.Fatalf("%.300s and then %.300s", first, second)
		}
		if !slices.Equal(memory, before) {
			t.Fatalf("the argument %.300s is changed", fmt.Sprint(damages))
		}
	}
	eachDamages(check)
	for _, damages := range invalidDamageLists() {
		for _, k := range append(ropeKindsInUse(), invalidKinds()...) {
			check(k, damages)
		}
	}
	for _, k := range invalidKinds() {
		check(k, nil)
		check(k, damagesOf(sixtyWires(), 3))
	}
	for _, n := range extremes() {
		for _, m := range extremes() {
			impl.BrokenWires(sixtyWires(), mostDamages(sixtyWires()), n, m)
			check(impl.RopeKind{Id: n, Strands: m, Wires: n, Weight: m, Strong: n}, []impl.Damage{damage(m, n, m)})
		}
	}
	kinds := kindsWith(1, 2, 3, 4, 5)
	memory := append(slices.Clone(kinds), impl.RopeKind{Id: 6, Strands: 6, Wires: 10, Weight: 10, Strong: 5000})
	if id, ok := impl.LightestKind(memory[:5], 2); !ok || id != 1 || !slices.Equal(memory[:5], kinds) {
		t.Errorf("LightestKind = %d, %v", id, ok)
	}
}

// TestAddDamageReturnsNewMemory changes the result, and behind its length, and expects that
// neither the argument nor a later result changes with it.
func TestAddDamageReturnsNewMemory(t *testing.T) {
	k := sixtyWires()
	for _, d := range []impl.Damage{damage(5, 1, 1), damage(1, 0, 1), damage(9, 0, 1), damage(6, 0, 1)} {
		for _, count := range []int{0, 1, 2} {
			memory := []impl.Damage{damage(5, 1, 2), damage(8, 0, 9), damage(20, 0, 1), damage(21, 0, 1)}
			before := slices.Clone(memory)
			list, ok := impl.AddDamage(k, memory[:count], d)
			again, _ := impl.AddDamage(k, memory[:count], d)
			kept := slices.Clone(again)
			if !ok || !slices.Equal(list, again) {
				t.Fatalf("AddDamage(%v) = %v, %v and then %v", d, list, ok, again)
			}
			_ = append(list[:1], damage(99, 9, 9), damage(98, 8, 8))
			clear(list)
			if !slices.Equal(memory, before) || !slices.Equal(again, kept) {
				t.Errorf("the result of AddDamage(%v) shares memory", d)
			}
		}
	}
}
