package tests

import (
	"fmt"
	"math"
	"slices"
	"testing"

	"loop.example/g00935/impl"
)

// waiting returns a queue of Groups with sizes; a Group is Quick if its size is given below zero.
func waiting(sizes ...int) []impl.Group {
	queue := []impl.Group{}
	for _, size := range sizes {
		queue = append(queue, impl.Group{Size: max(size, -size), Quick: size < 0})
	}
	return queue
}

// exampleQueue has a Quick Group behind another one, and one that is as great as a cabin of four.
func exampleQueue() []impl.Group {
	return waiting(3, -2, 4, 1)
}

// queueOf returns a valid queue with Groups up to a size.
func queueOf(seed, size int) []impl.Group {
	next := numbers(seed)
	quick := 1 + next(4)
	queue := []impl.Group{}
	for range next(impl.MaxGroups + 1) {
		n := []int{1 + next(size), 1 + next(size), size, 1 + size/2}[next(4)]
		queue = append(queue, impl.Group{Size: n, Quick: next(quick) == 1})
	}
	return queue
}

// eachQueue calls f with every queue of up to three Groups, and many longer ones, and each number of
// seats.
func eachQueue(f func(queue []impl.Group, seats int)) {
	queues := [][]impl.Group{{}}
	for start, length := 0, 1; length <= 3; length++ {
		end := len(queues)
		for _, queue := range queues[start:end] {
			for size := 1; size <= 8; size++ {
				queues = append(queues, slices.Concat(queue, waiting(size)), slices.Concat(queue, waiting(-size)))
			}
		}
		start = end
	}
	for seed := range 3000 {
		queues = append(queues, queueOf(seed, 1+seed%8))
	}
	for _, queue := range queues {
		for seats := 1; seats <= 10; seats++ {
			f(queue, seats)
		}
	}
}

// eachQueueThatFits calls f with the queues without a Group that is greater than a cabin.
func eachQueueThatFits(f func(queue []impl.Group, seats int)) {
	eachQueue(func(queue []impl.Group, seats int) {
		if greatestGroup(queue) <= seats {
			f(queue, seats)
		}
	})
}

func greatestGroup(queue []impl.Group) int {
	greatest := 0
	for _, group := range queue {
		greatest = max(greatest, group.Size)
	}
	return greatest
}

// firstFit puts one Group after the other, the Quick ones first, into the first cabin where it fits,
// and returns the cabins of the Groups and the seats left in each cabin.
func firstFit(queue []impl.Group, seats int) ([]int, []int) {
	cabins, left := make([]int, len(queue)), []int{}
	put := func(i int) {
		k := slices.IndexFunc(left, func(n int) bool { return n >= queue[i].Size })
		if k < 0 {
			k, left = len(left), append(left, seats)
		}
		cabins[i] = k
		left[k] -= queue[i].Size
	}
	for i, group := range queue {
		if group.Quick {
			put(i)
		}
	}
	for i, group := range queue {
		if !group.Quick {
			put(i)
		}
	}
	return cabins, left
}

// splitPeople lets the people of a queue go one by one, and begins a Group anew after as many as a
// cabin has seats.
func splitPeople(queue []impl.Group, seats int) []impl.Group {
	split := []impl.Group{}
	for _, group := range queue {
		for person := range group.Size {
			if person%seats == 0 {
				split = append(split, impl.Group{Quick: group.Quick})
			}
			split[len(split)-1].Size++
		}
	}
	return split
}

// fewestCabins finds the fewest cabins for every set of the Groups, from those of smaller sets.
func fewestCabins(queue []impl.Group, seats int) int {
	people := make([]int, 1<<len(queue))
	fewest := make([]int, 1<<len(queue))
	for set := 1; set < len(fewest); set++ {
		for i, group := range queue {
			if set&(1<<i) != 0 {
				people[set] += group.Size
			}
		}
		fewest[set] = len(queue)
		for part := set; part > 0; part = (part - 1) & set {
			if people[part] <= seats {
				fewest[set] = min(fewest[set], 1+fewest[set-part])
			}
		}
	}
	return fewest[len(fewest)-1]
}

// invalidQueues returns lists that are no queues.
func invalidQueues() [][]impl.Group {
	lists := [][]impl.Group{
		waiting(1, 1, 1, 1, 1, 1, 1, 1, 1, 1, 1, 1, 1), waiting(-1, -1, -1, -1, -1, -1, -1, -1, -1, -1, -1, -1, -1), make([]impl.Group, 1), make([]impl.Group, 13), make([]impl.Group, 100000), slices.Repeat(waiting(1), 100000),
	}
	for _, n := range append(extremes(), 0, 9, 10, 100) {
		for _, quick := range []bool{false, true} {
			wrong := []impl.Group{{Size: n, Quick: quick}}
			lists = append(lists, wrong, slices.Concat(wrong, waiting(1)), slices.Concat(waiting(1, -2), wrong), slices.Concat(waiting(-1), wrong, waiting(2)), slices.Concat(waiting(1, 1, 1, 1, 1, 1, 1, 1, 1, 1, 1), wrong))
		}
	}
	return lists
}

// wrongSeats are numbers of seats that no cabin here has.
func wrongSeats() []int {
	return append(extremes(), 0, 11, 12, 16, 100)
}

func TestQueueConstants(t *testing.T) {
	if impl.MaxGroups != 12 {
		t.Errorf("MaxGroups is %d", impl.MaxGroups)
	}
}

func TestIsQueueUpToTheLimits(t *testing.T) {
	for size := -2; size <= 11; size++ {
		for _, quick := range []bool{false, true} {
			group := impl.Group{Size: size, Quick: quick}
			want := size >= 1 && size <= 8
			for length := 1; length <= 14; length++ {
				for i := range length {
					queue := waiting(1, -8, 3, 1, 1, 8, 1, -1, 1, 1, 1, 8, 1, 2)[:length]
					queue[i] = group
					if impl.IsQueue(queue) != (want && length <= 12) {
						t.Fatalf("%v is a queue: %v", queue, impl.IsQueue(queue))
					}
				}
			}
		}
	}
	for _, queue := range invalidQueues() {
		if impl.IsQueue(queue) {
			t.Errorf("%.300s is a queue", fmt.Sprint(queue))
		}
	}
	if !impl.IsQueue(nil) || !impl.IsQueue([]impl.Group{}) {
		t.Error("nobody is no queue")
	}
	eachQueue(func(queue []impl.Group, seats int) {
		if !impl.IsQueue(queue) {
			t.Fatalf("%v is no queue", queue)
		}
	})
}

func TestSplitGroupsValues(t *testing.T) {
	cases := []struct {
		queue []impl.Group
		seats int
		want  []impl.Group
	}{
		{nil, 1, nil}, {nil, 10, nil},
		{waiting(-8), 3, waiting(-3, -3, -2)}, {waiting(8), 3, waiting(3, 3, 2)}, {waiting(8), 7, waiting(7, 1)}, {waiting(8), 5, waiting(5, 3)},
		// A Group as great as a cabin is not split, and several times as great has no rest.
		{waiting(8), 8, waiting(8)}, {waiting(-4), 4, waiting(-4)}, {waiting(1), 1, waiting(1)}, {waiting(8), 4, waiting(4, 4)}, {waiting(-8), 2, waiting(-2, -2, -2, -2)}, {waiting(6), 3, waiting(3, 3)}, {waiting(8), 1, waiting(1, 1, 1, 1, 1, 1, 1, 1)},
		{waiting(8, -8), 9, waiting(8, -8)}, {waiting(8, -8), 10, waiting(8, -8)},
		// The others keep their places.
		{waiting(2, -5, 3, 7), 3, waiting(2, -3, -2, 3, 3, 3, 1)}, {waiting(-4, 4, -5, 5), 4, waiting(-4, 4, -4, -1, 4, 1)},
		// Just as many as a queue can have.
		{waiting(8, 4), 1, waiting(1, 1, 1, 1, 1, 1, 1, 1, 1, 1, 1, 1)}, {waiting(-8, 8, -8), 2, waiting(-2, -2, -2, -2, 2, 2, 2, 2, -2, -2, -2, -2)}, {waiting(7, 7, 7), 2, waiting(2, 2, 2, 1, 2, 2, 2, 1, 2, 2, 2, 1)},
		{waiting(1, 1, 1, 1, 1, 1, 1, 1, 1, 1, -8), 7, waiting(1, 1, 1, 1, 1, 1, 1, 1, 1, 1, -7, -1)}, {waiting(8, 8, 8, 8, 8, 8), 4, slices.Repeat(waiting(4), 12)},
	}
	for _, c := range cases {
		if split, ok := impl.SplitGroups(c.queue, c.seats); !ok || !slices.Equal(split, c.want) {
			t.Errorf("SplitGroups(%v, %d) = %v, %v, not %v", c.queue, c.seats, split, ok, c.want)
		}
	}
	tooMany := []struct {
		queue []impl.Group
		seats int
	}{
		{waiting(8, 5), 1}, {waiting(8, 4, 1), 1}, {waiting(8, 8, 8, 1), 2}, {waiting(7, 7, 7, -1), 2}, {waiting(8, 8, 8, 8, 8, 8, 8), 4}, {waiting(1, 1, 1, 1, 1, 1, 1, 1, 1, 1, 1, 8), 7}, {slices.Repeat(waiting(8), 12), 1}, {slices.Repeat(waiting(-2), 12), 1},
	}
	for _, c := range tooMany {
		if split, ok := impl.SplitGroups(c.queue, c.seats); ok || len(split) != 0 {
			t.Errorf("SplitGroups(%v, %d) = %v, %v", c.queue, c.seats, split, ok)
		}
	}
}

// TestSplitGroupsOfManyQueues also expects that what is split fits, and is split no more.
func TestSplitGroupsOfManyQueues(t *testing.T) {
	tooMany, divided := 0, 0
	eachQueue(func(queue []impl.Group, seats int) {
		want := splitPeople(queue, seats)
		split, ok := impl.SplitGroups(queue, seats)
		if len(want) > 12 {
			tooMany++
			if ok || len(split) != 0 {
				t.Fatalf("SplitGroups(%v, %d) = %v, %v", queue, seats, split, ok)
			}
			return
		}
		if len(want) > len(queue) {
			divided++
		}
		if !ok || !slices.Equal(split, want) {
			t.Fatalf("SplitGroups(%v, %d) = %v, %v, not %v", queue, seats, split, ok, want)
		}
		if _, ok := impl.FillCabin(split, seats); !ok {
			t.Fatalf("%v of %v does not fit %d seats", split, queue, seats)
		}
		if again, ok := impl.SplitGroups(split, seats); !ok || !slices.Equal(again, split) {
			t.Fatalf("%v of %v with %d seats is split again: %v, %v", split, queue, seats, again, ok)
		}
	})
	if tooMany < 2000 || divided < 2000 {
		t.Errorf("only %d queues have too many Groups, and %d are split", tooMany, divided)
	}
}

func TestFillCabinValues(t *testing.T) {
	cases := []struct {
		queue []impl.Group
		seats int
		want  []int
		after []impl.Group
		count int
	}{
		{nil, 1, nil, nil, 0}, {nil, 10, nil, nil, 0}, {[]impl.Group{}, 4, nil, nil, 0},
		{exampleQueue(), 6, []int{0, 1, 3}, waiting(4), 6}, {exampleQueue(), 4, []int{1, 3}, waiting(3, 4), 3}, {exampleQueue(), 5, []int{0, 1}, waiting(4, 1), 5}, {exampleQueue(), 10, []int{0, 1, 2, 3}, nil, 10}, {exampleQueue(), 9, []int{0, 1, 2}, waiting(1), 9},
		// A Group as great as a cabin fills it alone.
		{waiting(8), 8, []int{0}, nil, 8}, {waiting(1), 1, []int{0}, nil, 1}, {waiting(-5), 5, []int{0}, nil, 5}, {waiting(4, 1, 4), 4, []int{0}, waiting(1, 4), 4}, {waiting(1, 4, 3), 4, []int{0, 2}, waiting(4), 4}, {waiting(1, -4, 3), 4, []int{1}, waiting(1, 3), 4},
		{waiting(1, 1, -1), 1, []int{2}, waiting(1, 1), 1},
		// All Quick Groups come before the others, in their order.
		{waiting(2, 2, -2, -3), 5, []int{2, 3}, waiting(2, 2), 5}, {waiting(3, -3, -4), 6, []int{0, 1}, waiting(-4), 6}, {waiting(-4, -3, -2, 1), 6, []int{0, 2}, waiting(-3, 1), 6}, {waiting(1, 2, -6, -5), 6, []int{2}, waiting(1, 2, -5), 6},
		{waiting(5, 1, -2), 6, []int{1, 2}, waiting(5), 3}, {waiting(-1, 5, 6, -2), 8, []int{0, 1, 3}, waiting(6), 8}, {waiting(-1, 6, 5, -2), 8, []int{0, 2, 3}, waiting(6), 8},
		// Who does not fit waits, and smaller ones behind go past.
		{waiting(5, 4, 3, 2, 1), 7, []int{0, 3}, waiting(4, 3, 1), 7}, {waiting(5, 4, 3, 1, 2, 1), 7, []int{0, 3, 5}, waiting(4, 3, 2), 7}, {waiting(6, 6, 6), 10, []int{0}, waiting(6, 6), 6},
		{slices.Repeat(waiting(1), 12), 10, []int{0, 1, 2, 3, 4, 5, 6, 7, 8, 9}, waiting(1, 1), 10}, {append(slices.Repeat(waiting(1), 11), waiting(-8)...), 10, []int{0, 1, 11}, slices.Repeat(waiting(1), 9), 10},
	}
	for _, c := range cases {
		if inside, ok := impl.FillCabin(c.queue, c.seats); !ok || !slices.Equal(inside, c.want) {
			t.Errorf("FillCabin(%v, %d) = %v, %v, not %v", c.queue, c.seats, inside, ok, c.want)
		}
		if after, count, ok := impl.AfterCabin(c.queue, c.seats); !ok || !slices.Equal(after, c.after) || count != c.count {
			t.Errorf("AfterCabin(%v, %d) = %v, %d, %v, not %v, %d", c.queue, c.seats, after, count, ok, c.after, c.count)
		}
	}
}

func TestCabinsNeededValues(t *testing.T) {
	cases := []struct {
		queue        []impl.Group
		seats        int
		cabins       []int
		count, empty int
	}{
		{nil, 1, nil, 0, 0}, {nil, 10, nil, 0, 0},
		{exampleQueue(), 6, []int{0, 0, 1, 0}, 2, 2}, {exampleQueue(), 4, []int{1, 0, 2, 0}, 3, 2}, {exampleQueue(), 5, []int{0, 0, 1, 1}, 2, 0}, {exampleQueue(), 10, []int{0, 0, 0, 0}, 1, 0}, {exampleQueue(), 9, []int{0, 0, 0, 1}, 2, 8},
		{waiting(8), 8, []int{0}, 1, 0}, {waiting(8), 10, []int{0}, 1, 2}, {waiting(1), 1, []int{0}, 1, 0}, {waiting(1), 10, []int{0}, 1, 9}, {waiting(4, 1, 4, 3), 4, []int{0, 1, 2, 1}, 3, 0},
		{waiting(1, -1, 1, -1), 1, []int{2, 0, 3, 1}, 4, 0}, {waiting(2, 2, -4, -3), 5, []int{1, 2, 0, 1}, 3, 4}, {waiting(5, -2, -5, 3, -1), 6, []int{2, 0, 1, 0, 0}, 3, 2},
		{slices.Repeat(waiting(6), 12), 10, []int{0, 1, 2, 3, 4, 5, 6, 7, 8, 9, 10, 11}, 12, 48}, {slices.Repeat(waiting(8), 12), 8, []int{0, 1, 2, 3, 4, 5, 6, 7, 8, 9, 10, 11}, 12, 0}, {slices.Repeat(waiting(5), 12), 10, []int{0, 0, 1, 1, 2, 2, 3, 3, 4, 4, 5, 5}, 6, 0},
	}
	for _, c := range cases {
		if n, ok := impl.CabinsNeeded(c.queue, c.seats); !ok || n != c.count {
			t.Errorf("CabinsNeeded(%v, %d) = %d, %v, not %d", c.queue, c.seats, n, ok, c.count)
		}
		if n, ok := impl.EmptySeats(c.queue, c.seats); !ok || n != c.empty {
			t.Errorf("EmptySeats(%v, %d) = %d, %v, not %d", c.queue, c.seats, n, ok, c.empty)
		}
		for i, want := range c.cabins {
			if k, ok := impl.CabinOf(c.queue, c.seats, i); !ok || k != want {
				t.Errorf("CabinOf(%v, %d, %d) = %d, %v, not %d", c.queue, c.seats, i, k, ok, want)
			}
		}
	}
}

func TestCabinsOfManyQueues(t *testing.T) {
	passed, full := 0, 0
	eachQueueThatFits(func(queue []impl.Group, seats int) {
		cabins, left := firstFit(queue, seats)
		inside, after, people := []int{}, []impl.Group{}, 0
		for i, group := range queue {
			if cabins[i] == 0 {
				inside = append(inside, i)
				people += group.Size
			} else {
				after = append(after, group)
			}
			if k, ok := impl.CabinOf(queue, seats, i); !ok || k != cabins[i] {
				t.Fatalf("CabinOf(%v, %d, %d) = %d, %v, not %d", queue, seats, i, k, ok, cabins[i])
			}
			if i > 0 && cabins[i] < cabins[i-1] {
				passed++
			}
			if group.Size == seats {
				full++
			}
		}
		if got, ok := impl.FillCabin(queue, seats); !ok || !slices.Equal(got, inside) {
			t.Fatalf("FillCabin(%v, %d) = %v, %v, not %v", queue, seats, got, ok, inside)
		}
		if got, n, ok := impl.AfterCabin(queue, seats); !ok || !slices.Equal(got, after) || n != people {
			t.Fatalf("AfterCabin(%v, %d) = %v, %d, %v, not %v, %d", queue, seats, got, n, ok, after, people)
		}
		if n, ok := impl.CabinsNeeded(queue, seats); !ok || n != len(left) {
			t.Fatalf("CabinsNeeded(%v, %d) = %d, %v, not %d", queue, seats, n, ok, len(left))
		}
		empty := 0
		for _, n := range left {
			empty += n
		}
		if n, ok := impl.EmptySeats(queue, seats); !ok || n != empty {
			t.Fatalf("EmptySeats(%v, %d) = %d, %v, not %d", queue, seats, n, ok, empty)
		}
	})
	if passed < 5000 || full < 2000 {
		t.Errorf("only %d Groups go past another one, and %d are as great as a cabin", passed, full)
	}
}

// TestEveryGroupGetsIntoExactlyOneCabin lets one cabin after the other come, and notes who gets into
// each, also if Groups had to be split before.
func TestEveryGroupGetsIntoExactlyOneCabin(t *testing.T) {
	several := 0
	eachQueue(func(queue []impl.Group, seats int) {
		split, ok := impl.SplitGroups(queue, seats)
		if !ok {
			return
		}
		cabins := make([][]int, len(split))
		rest, indices := slices.Clone(split), []int{}
		for i := range split {
			indices = append(indices, i)
		}
		came, people := 0, 0
		for ; len(rest) > 0 && came <= len(split); came++ {
			inside, ok := impl.FillCabin(rest, seats)
			after, count, afterOk := impl.AfterCabin(rest, seats)
			if !ok || !afterOk || len(inside) == 0 || len(inside)+len(after) != len(rest) || count > seats {
				t.Fatalf("%v, %d seats: of %v %v get in, and %v, %d remain", split, seats, rest, inside, after, count)
			}
			others := []int{}
			for place, i := range indices {
				if slices.Contains(inside, place) {
					cabins[i] = append(cabins[i], came)
				} else {
					others = append(others, i)
				}
			}
			rest, indices, people = after, others, people+count
		}
		for i := range split {
			if k, ok := impl.CabinOf(split, seats, i); !ok || !slices.Equal(cabins[i], []int{k}) {
				t.Fatalf("%v, %d seats: Group %d gets into %v, not %d, %v", split, seats, i, cabins[i], k, ok)
			}
		}
		all, _, peopleOk := impl.PeopleIn(queue)
		if n, ok := impl.CabinsNeeded(split, seats); !ok || n != came || len(rest) != 0 || people != all || !peopleOk {
			t.Fatalf("%v, %d seats: %d, %v cabins are needed, %d came with %d of %d people, and %v remain", split, seats, n, ok, came, people, all, rest)
		}
		if came > 1 {
			several++
		}
	})
	if several < 20000 {
		t.Errorf("only %d queues need several cabins", several)
	}
}

func TestPeopleInValues(t *testing.T) {
	cases := []struct {
		queue      []impl.Group
		all, quick int
	}{
		{nil, 0, 0}, {[]impl.Group{}, 0, 0}, {waiting(1), 1, 0}, {waiting(-1), 1, 1}, {exampleQueue(), 10, 2}, {waiting(8, -7, -6, 5), 26, 13}, {slices.Repeat(waiting(8), 12), 96, 0}, {slices.Repeat(waiting(-8), 12), 96, 96},
	}
	for _, c := range cases {
		if all, quick, ok := impl.PeopleIn(c.queue); !ok || all != c.all || quick != c.quick {
			t.Errorf("PeopleIn(%v) = %d, %d, %v, not %d, %d", c.queue, all, quick, ok, c.all, c.quick)
		}
	}
	eachQueue(func(queue []impl.Group, seats int) {
		want := map[bool]int{}
		for _, group := range queue {
			want[group.Quick] += group.Size
		}
		if all, quick, ok := impl.PeopleIn(queue); !ok || all != want[true]+want[false] || quick != want[true] {
			t.Fatalf("PeopleIn(%v) = %d, %d, %v", queue, all, quick, ok)
		}
	})
}

func TestLeastCabinsValues(t *testing.T) {
	cases := []struct {
		queue []impl.Group
		seats int
		want  int
	}{
		{nil, 1, 0}, {nil, 10, 0}, {exampleQueue(), 6, 2}, {exampleQueue(), 4, 3}, {exampleQueue(), 5, 2}, {exampleQueue(), 9, 2}, {exampleQueue(), 10, 1},
		// A Group as great as a cabin.
		{waiting(1), 1, 1}, {waiting(8), 8, 1}, {waiting(8, 8, 8, 8, 8, 8, 8, 8), 8, 8}, {waiting(1, 5, 4, 5), 5, 3}, {waiting(1, 1, 1, 1, 1, 1, 1, 1), 1, 8}, {waiting(1, 1, 1, 1, 1, 1, 1, 1), 8, 1},
		// The order and the lanes do not count.
		{waiting(2, 3, 3, 4), 6, 2}, {waiting(-4, 3, -3, 2), 6, 2}, {waiting(-1, 5, 5, -1), 6, 2}, {waiting(-3, -2, 3, 4), 6, 2}, {waiting(2, 2, 3, 5, 5, 3), 10, 2}, {waiting(6, 6, 6, 4, 4, 4, 6, 4), 10, 4},
		// Neither with the greatest first nor with the fullest cabin first.
		{waiting(4, 4, 3, 3, 3, 3), 10, 2}, {waiting(4, 4, 3, 3, 3, 3, 6, 4), 10, 3}, {waiting(5, 4, 4, 3, 2, 2), 10, 2}, {waiting(3, 3, 2, 2, 2), 6, 2}, {waiting(4, 3, 3, 2, 2, 2, 2, 2), 10, 2},
		{waiting(6, 6, 6, 6, 6, 6, 6, 6), 10, 8}, {waiting(5, 5, 5, 5, 5, 5, 5, 5), 10, 4}, {waiting(3, 3, 3, 3, 3, 3, 3, 3), 8, 4},
	}
	for _, c := range cases {
		if n, ok := impl.LeastCabins(c.queue, c.seats); !ok || n != c.want {
			t.Errorf("LeastCabins(%v, %d) = %d, %v, not %d", c.queue, c.seats, n, ok, c.want)
		}
	}
	for length := 9; length <= 12; length++ {
		for seats := 1; seats <= 10; seats++ {
			if n, ok := impl.LeastCabins(slices.Repeat(waiting(1), length), seats); ok || n != 0 {
				t.Errorf("LeastCabins of %d Groups with %d seats = %d, %v", length, seats, n, ok)
			}
		}
	}
}

func TestLeastCabinsOfManyQueues(t *testing.T) {
	fewer, many := 0, 0
	check := func(queue []impl.Group, seats int) {
		n, ok := impl.LeastCabins(queue, seats)
		if len(queue) > 8 {
			many++
			if ok || n != 0 {
				t.Fatalf("LeastCabins(%v, %d) = %d, %v", queue, seats, n, ok)
			}
			return
		}
		needed, _ := impl.CabinsNeeded(queue, seats)
		if want := fewestCabins(queue, seats); !ok || n != want || n > needed {
			t.Fatalf("LeastCabins(%v, %d) = %d, %v, not %d of %d", queue, seats, n, ok, want, needed)
		}
		if n < needed {
			fewer++
		}
	}
	eachQueueThatFits(check)
	for seed := 3000; seed < 5000; seed++ {
		queue := queueOf(seed, 4+seed%5)
		check(queue[:min(len(queue), 8)], 8+seed%3)
	}
	if fewer < 400 || many < 1000 {
		t.Errorf("only %d queues need fewer cabins in another order, and %d are too long", fewer, many)
	}
}

// queueFails expects that all functions fail that put Groups into cabins.
func queueFails(t *testing.T, queue []impl.Group, seats int) {
	t.Helper()
	text := fmt.Sprintf("%.300s with %d seats", fmt.Sprint(queue), seats)
	if inside, ok := impl.FillCabin(queue, seats); ok || len(inside) != 0 {
		t.Errorf("FillCabin of %s = %v, %v", text, inside, ok)
	}
	if after, people, ok := impl.AfterCabin(queue, seats); ok || len(after) != 0 || people != 0 {
		t.Errorf("AfterCabin of %s = %v, %d, %v", text, after, people, ok)
	}
	if n, ok := impl.CabinsNeeded(queue, seats); ok || n != 0 {
		t.Errorf("CabinsNeeded of %s = %d, %v", text, n, ok)
	}
	if n, ok := impl.LeastCabins(queue, seats); ok || n != 0 {
		t.Errorf("LeastCabins of %s = %d, %v", text, n, ok)
	}
	if n, ok := impl.EmptySeats(queue, seats); ok || n != 0 {
		t.Errorf("EmptySeats of %s = %d, %v", text, n, ok)
	}
	for i := -1; i <= 3; i++ {
		if k, ok := impl.CabinOf(queue, seats, i); ok || k != 0 {
			t.Errorf("CabinOf %s, %d = %d, %v", text, i, k, ok)
		}
	}
}

func TestInvalidQueuesFail(t *testing.T) {
	for _, queue := range invalidQueues() {
		for _, seats := range []int{1, 4, 8, 10, 0} {
			queueFails(t, queue, seats)
			if split, ok := impl.SplitGroups(queue, seats); ok || len(split) != 0 {
				t.Errorf("SplitGroups(%.300s, %d) = %v, %v", fmt.Sprint(queue), seats, split, ok)
			}
		}
		if all, quick, ok := impl.PeopleIn(queue); ok || all != 0 || quick != 0 {
			t.Errorf("PeopleIn(%.300s) = %d, %d, %v", fmt.Sprint(queue), all, quick, ok)
		}
	}
}

func TestInvalidSeatsFail(t *testing.T) {
	for _, seats := range wrongSeats() {
		for _, queue := range [][]impl.Group{nil, {}, waiting(1), waiting(-8), exampleQueue()} {
			queueFails(t, queue, seats)
			if split, ok := impl.SplitGroups(queue, seats); ok || len(split) != 0 {
				t.Errorf("SplitGroups(%v, %d) = %v, %v", queue, seats, split, ok)
			}
		}
	}
}

// TestGroupsGreaterThanACabinFail is about one Group that is just too great, wherever it stands.
func TestGroupsGreaterThanACabinFail(t *testing.T) {
	for seats := 1; seats <= 7; seats++ {
		for size := seats + 1; size <= 8; size++ {
			for _, great := range []int{size, -size} {
				for _, queue := range [][]impl.Group{waiting(great), waiting(1, great), waiting(great, -1), waiting(seats, 1, great, -seats), waiting(-1, 1, 1, great)} {
					queueFails(t, queue, seats)
				}
			}
		}
	}
}

func TestNoSuchGroup(t *testing.T) {
	for length := range impl.MaxGroups + 1 {
		queue := slices.Repeat(waiting(2), length)
		for _, i := range append(extremes(), length, length+1, 12, 13, -2) {
			k, ok := impl.CabinOf(queue, 5, i)
			if want := i >= 0 && i < length; ok != want || !ok && k != 0 {
				t.Errorf("CabinOf(%v, 5, %d) = %d, %v", queue, i, k, ok)
			}
		}
	}
}

// queueResults calls every function of the chapter, checks that zero values stand beside false, and
// returns all results as a text.
func queueResults(t *testing.T, queue []impl.Group, seats, i int) string {
	t.Helper()
	valid := impl.IsQueue(queue)
	split, splitOk := impl.SplitGroups(queue, seats)
	inside, insideOk := impl.FillCabin(queue, seats)
	after, people, afterOk := impl.AfterCabin(queue, seats)
	needed, neededOk := impl.CabinsNeeded(queue, seats)
	number, numberOk := impl.CabinOf(queue, seats, i)
	all, quick, allOk := impl.PeopleIn(queue)
	least, leastOk := impl.LeastCabins(queue, seats)
	empty, emptyOk := impl.EmptySeats(queue, seats)
	got := []bool{splitOk, insideOk, afterOk, neededOk, numberOk, allOk, leastOk, emptyOk}
	sat := valid && seats >= 1 && seats <= 10
	fits := sat && greatestGroup(queue) <= seats
	want := []bool{sat && len(splitPeople(queue, seats)) <= 12, fits, fits, fits, fits && i >= 0 && i < len(queue), valid, fits && len(queue) <= 8, fits}
	if !slices.Equal(got, want) {
		t.Fatalf("%.300s, %d, %d: %v, not %v", fmt.Sprint(queue), seats, i, got, want)
	}
	zero := (len(split) == 0 || splitOk) && (len(inside) == 0 || insideOk) && (len(after) == 0 && people == 0 || afterOk) && (needed == 0 || neededOk)
	zero = zero && (number == 0 || numberOk) && (all == 0 && quick == 0 || allOk) && (least == 0 || leastOk) && (empty == 0 || emptyOk)
	if !zero {
		t.Fatalf("%.300s, %d, %d: a result beside false is not zero", fmt.Sprint(queue), seats, i)
	}
	return fmt.Sprint(got, valid, split, inside, after, people, needed, number, all, quick, least, empty)
}

// TestQueuesReturnForAllArguments gives valid and invalid arguments to every function of the chapter,
// with queues as parts of longer lists, and expects that nothing in these changes, that what stands
// behind them does not count, and that a second call returns the same.
func TestQueuesReturnForAllArguments(t *testing.T) {
	check := func(queue []impl.Group, seats, i int) {
		memory := append(slices.Clone(queue), impl.Group{Size: 1, Quick: true}, impl.Group{Size: 9}, impl.Group{Size: math.MinInt}, impl.Group{Size: 2})
		before := slices.Clone(memory)
		first := queueResults(t, slices.Clone(queue), seats, i)
		if second := queueResults(t, memory[:len(queue)], seats, i); second != first {
			t.Fatalf("%.300s and then %.300s", first, second)
		}
		if !slices.Equal(memory, before) {
			t.Fatalf("the argument %.300s is changed", fmt.Sprint(queue))
		}
	}
	eachQueue(func(queue []impl.Group, seats int) { check(queue, seats, len(queue)-1) })
	tried := append(wrongSeats(), 1, 2, 7, 8, 9, 10, 12, 13)
	for i, seats := range tried {
		for _, n := range tried {
			check(nil, seats, n)
			check(exampleQueue(), seats, n)
			check(queueOf(i, 1+i%8), seats, n)
			check(waiting(1, n), seats, i)
			check(waiting(n, -8, 5), seats, i)
		}
	}
	for _, queue := range invalidQueues() {
		for _, seats := range []int{1, 8, 10, 11, math.MinInt} {
			check(queue, seats, 0)
		}
	}
}

// TestQueuesReturnNewMemory changes the results, and behind their length, and expects that neither
// the argument nor a later result changes with them.
func TestQueuesReturnNewMemory(t *testing.T) {
	memory := waiting(3, -2, 4, 1, 5, 6)
	before := slices.Clone(memory)
	after := func(queue []impl.Group, seats int) ([]impl.Group, bool) {
		rest, _, ok := impl.AfterCabin(queue, seats)
		return rest, ok
	}
	for count := range len(memory) + 1 {
		for seats := 6; seats <= 10; seats++ {
			queue := memory[:count]
			for _, f := range []func([]impl.Group, int) ([]impl.Group, bool){impl.SplitGroups, after} {
				one, ok := f(queue, seats)
				two, _ := f(queue, seats)
				kept := slices.Clone(two)
				if !ok || !slices.Equal(one, two) {
					t.Fatalf("%v, %d: %v, %v and then %v", queue, seats, one, ok, two)
				}
				one = append(one, waiting(7, 7)...)
				clear(one[:cap(one)])
				if three, _ := f(queue, seats); !slices.Equal(memory, before) || !slices.Equal(two, kept) || !slices.Equal(three, kept) {
					t.Errorf("a result of %v, %d shares memory", queue, seats)
				}
			}
			one, _ := impl.FillCabin(queue, seats)
			two, _ := impl.FillCabin(queue, seats)
			kept := slices.Clone(two)
			clear(one[:cap(one)])
			if three, _ := impl.FillCabin(queue, seats); !slices.Equal(two, kept) || !slices.Equal(three, kept) {
				t.Errorf("a result of FillCabin(%v, %d) shares memory", queue, seats)
			}
		}
	}
}
