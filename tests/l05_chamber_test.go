package tests

import (
	"math"
	"math/rand"
	"slices"
	"testing"

	"loop.example/g03317/impl"
)

// sized returns a train of boats of the same size in one row.
func sized(length int, width int, ids ...int) impl.Train {
	var boats []impl.Boat
	for _, id := range ids {
		boats = append(boats, impl.Boat{Id: id, Length: length, Width: width, Draught: 8, Speed: 6, Class: impl.ClassCargo})
	}
	return up(boats)
}

func chamber(length int, width int, inside ...impl.Train) impl.Lock {
	l := plainLock(inside...)
	l.Length, l.Width = length, width
	return l
}

// naiveFits adds up the lines one after the other, when each of them is complete.
func naiveFits(l impl.Lock, list []impl.Train) bool {
	if len(list) > impl.MaxQueue {
		return false
	}
	seen := map[int]bool{}
	total, length, width := 0, 0, 0
	for i, train := range list {
		if !impl.TrainOk(train) {
			return false
		}
		for _, b := range slices.Concat(train.Rows...) {
			if seen[b.Id] {
				return false
			}
			seen[b.Id] = true
		}
		n := naiveNumbers(train)
		if n.width > l.Width {
			return false
		}
		if i > 0 && width+n.width > l.Width {
			total += length
			length, width = 0, 0
		}
		length, width = max(length, n.length), width+n.width
	}
	return total+length <= l.Length
}

// naiveBest takes or leaves one train after the other and first tries to take it.
func naiveBest(l impl.Lock, queue []impl.Train) []int {
	var best []int
	most := 0
	var decide func(i int, chosen []int)
	decide = func(i int, chosen []int) {
		if i < len(queue) && i < impl.MaxQueue {
			decide(i+1, append(slices.Clone(chosen), i))
			decide(i+1, chosen)
			return
		}
		trains, boats := slices.Clone(l.Inside), 0
		for _, k := range chosen {
			trains = append(trains, queue[k])
			for _, r := range queue[k].Rows {
				boats += len(r)
			}
		}
		if boats > most && naiveFits(l, trains) {
			best, most = chosen, boats
		}
	}
	decide(0, nil)
	return best
}

func TestFitsChamber(t *testing.T) {
	a, b, c := sized(30, 5, 1), sized(20, 6, 2), sized(10, 2, 3)
	chain := up(row(11, 12), row(13)) // 60 long and 10 wide
	known := []struct {
		length, width int
		list          []impl.Train
		fits          bool
	}{
		{30, 5, []impl.Train{a}, true}, {29, 5, []impl.Train{a}, false}, {30, 4, []impl.Train{a}, false},
		{60, 10, []impl.Train{chain}, true}, {59, 10, []impl.Train{chain}, false}, {60, 9, []impl.Train{chain}, false},
		// Side by side, or one behind the other.
		{30, 11, []impl.Train{a, b}, true}, {29, 11, []impl.Train{a, b}, false},
		{50, 10, []impl.Train{a, b}, true}, {49, 10, []impl.Train{a, b}, false},
		{50, 6, []impl.Train{a, b}, true}, {50, 5, []impl.Train{a, b}, false}, {50, 5, []impl.Train{b, a}, false},
		{30, 11, []impl.Train{b, a}, true}, {50, 10, []impl.Train{b, a}, true}, {49, 10, []impl.Train{b, a}, false},
		{30, 13, []impl.Train{a, b, c}, true}, {40, 12, []impl.Train{a, b, c}, true}, {39, 12, []impl.Train{a, b, c}, false},
		{50, 10, []impl.Train{a, b, c}, true}, {49, 10, []impl.Train{a, b, c}, false},
		// A train comes beside the one before, also if there is room beside an earlier one.
		{60, 7, []impl.Train{a, b, c}, true}, {59, 7, []impl.Train{a, b, c}, false}, {50, 7, []impl.Train{a, c, b}, true}, {49, 7, []impl.Train{a, c, b}, false},
		{50, 8, []impl.Train{c, b, a}, true}, {49, 8, []impl.Train{c, b, a}, false},
		{60, 7, []impl.Train{c, b, a}, true}, {59, 7, []impl.Train{c, b, a}, false},
		// A later line of several trains counts as a whole.
		{100, 10, []impl.Train{chain, a, c, b}, false}, {110, 10, []impl.Train{chain, a, c, b}, true}, {109, 10, []impl.Train{chain, a, c, b}, false},
		// The direction does not matter.
		{30, 11, []impl.Train{{Up: false, Rows: a.Rows}, b}, true},
		// Nothing fits, and there is room for it or not.
		{1, 1, nil, true}, {0, 0, nil, true}, {0, -1, nil, true}, {-1, 0, nil, false}, {-1, 100, []impl.Train{}, false},
		{0, math.MinInt, nil, true}, {math.MinInt, math.MaxInt, nil, false}, {math.MaxInt, math.MinInt, nil, true},
		{math.MaxInt, math.MaxInt, []impl.Train{a, b, c}, true}, {math.MaxInt, math.MinInt, []impl.Train{a}, false},
		{math.MinInt, math.MaxInt, []impl.Train{a}, false}, {0, 100, []impl.Train{a}, false}, {100, 0, []impl.Train{a}, false},
	}
	for _, k := range known {
		if fits := impl.FitsChamber(chamber(k.length, k.width), k.list); fits != k.fits {
			t.Errorf("FitsChamber of %v in %d and %d is %v", k.list, k.length, k.width, fits)
		}
	}
}

// TestOrderOfLines has several numbers that tell where each train lies.
func TestOrderOfLines(t *testing.T) {
	a, b, c := sized(30, 5, 1), sized(20, 6, 2), sized(10, 2, 3)
	for _, k := range []struct {
		width, length int
		list          []impl.Train
	}{
		{6, 60, []impl.Train{a, b, c}}, {7, 60, []impl.Train{a, b, c}}, {8, 50, []impl.Train{a, b, c}}, {10, 50, []impl.Train{a, b, c}},
		{11, 40, []impl.Train{a, b, c}}, {12, 40, []impl.Train{a, b, c}}, {13, 30, []impl.Train{a, b, c}}, {7, 50, []impl.Train{c, a, b}},
		{6, 60, []impl.Train{c, a, b}}, {7, 60, []impl.Train{c, b, a}}, {8, 50, []impl.Train{b, c, a}}, {10, 50, []impl.Train{b, c, a}},
	} {
		for length := 1; length <= 70; length++ {
			if fits := impl.FitsChamber(chamber(length, k.width), k.list); fits != (length >= k.length) {
				t.Errorf("FitsChamber of %v in %d and %d is %v", k.list, length, k.width, fits)
			}
		}
	}
}

func TestFitsChamberLooksAtLengthAndWidthAlone(t *testing.T) {
	list := []impl.Train{up(row(1)), down(row(2)), up(row(3))}
	locks := append(slices.Clip(validLocks()), invalidLocks()...)
	for _, l := range locks {
		l.Length, l.Width = 60, 10
		wide, long := l, l
		wide.Width, long.Length = 9, 59
		if !impl.FitsChamber(l, list) || impl.FitsChamber(wide, list) || impl.FitsChamber(long, list) {
			t.Errorf("FitsChamber looks at something else in %s", briefLock(l))
		}
	}
}

func TestFitsChamberAsksForValidTrains(t *testing.T) {
	for _, l := range []impl.Lock{chamber(1000, 100), chamber(math.MaxInt, math.MaxInt)} {
		for _, list := range invalidQueues() {
			if impl.FitsChamber(l, list) {
				t.Errorf("FitsChamber of %s is true", briefLock(impl.Lock{Inside: list}))
			}
		}
	}
	for _, list := range validQueues() {
		if !impl.FitsChamber(chamber(math.MaxInt, math.MaxInt), list) {
			t.Errorf("FitsChamber of %v is false", list)
		}
	}
}

// smallTrain has up to 4 boats, with Ids from one more than first on.
func smallTrain(rnd *rand.Rand, first int) impl.Train {
	t := impl.Train{Up: rnd.Intn(2) == 0, Rows: rows{nil}}
	for i := range 1 + rnd.Intn(4) {
		last := len(t.Rows) - 1
		if i > 0 && rnd.Intn(2) == 0 {
			t.Rows = append(t.Rows, nil)
			last++
		}
		b := randomBoat(rnd, first+1+i)
		b.Length, b.Width, b.Draught = 1+rnd.Intn(30), 1+rnd.Intn(5), 1+rnd.Intn(12)
		t.Rows[last] = append(t.Rows[last], b)
	}
	return t
}

// smallTrains seldom has an Id twice or a train that is not valid.
func smallTrains(rnd *rand.Rand, first int, count int) []impl.Train {
	var list []impl.Train
	for i := range count {
		train := smallTrain(rnd, first+10*i)
		switch rnd.Intn(20) {
		case 0:
			train = smallTrain(rnd, first)
		case 1:
			train.Rows[0][0].Speed = 0
		}
		list = append(list, train)
	}
	return list
}

func smallChamber(rnd *rand.Rand, inside []impl.Train) impl.Lock {
	return chamber(1+rnd.Intn(160), 1+rnd.Intn(25), inside...)
}

func TestFitsChamberOfManyTrains(t *testing.T) {
	rnd := rand.New(rand.NewSource(51))
	count := map[bool]int{}
	for range 20000 {
		l, list := smallChamber(rnd, nil), smallTrains(rnd, 0, rnd.Intn(impl.MaxQueue+2))
		fits := impl.FitsChamber(l, list)
		if fits != naiveFits(l, list) {
			t.Fatalf("FitsChamber of %v in %d and %d is %v", list, l.Length, l.Width, fits)
		}
		count[fits]++
	}
	if count[true] < 3000 || count[false] < 3000 {
		t.Errorf("%d lists fit and %d do not", count[true], count[false])
	}
}

func TestBestEntry(t *testing.T) {
	one, two, three := sized(30, 5, 1), sized(30, 5, 2, 3), sized(30, 4, 4, 5, 6)
	wideOne, longOne := sized(30, 13, 7), sized(101, 5, 8)
	bad := sized(30, 5, 1, 2, 3, 4, 5, 6)
	bad.Rows[0][5].Id = 1
	known := []struct {
		l     impl.Lock
		queue []impl.Train
		best  []int
	}{
		{chamber(100, 12), nil, nil},
		{chamber(100, 12), []impl.Train{}, nil},
		{chamber(100, 12), []impl.Train{one}, []int{0}},
		{chamber(30, 5), []impl.Train{one}, []int{0}},
		{chamber(29, 5), []impl.Train{one}, nil},
		{chamber(30, 4), []impl.Train{one}, nil},
		{chamber(100, 12), []impl.Train{one, two, three}, []int{0, 1, 2}},
		// More boats go first, also if they come later.
		{chamber(30, 12), []impl.Train{one, two, three}, []int{2}},
		{chamber(30, 12), []impl.Train{three, two, one}, []int{0}},
		{chamber(30, 10), []impl.Train{one, two}, []int{1}},
		{chamber(60, 12), []impl.Train{one, two, three}, []int{1, 2}},
		{chamber(60, 12), []impl.Train{one, three, two}, []int{1, 2}},
		{chamber(60, 10), []impl.Train{one, two, sized(30, 5, 7)}, []int{0, 1}},
		// Boats count, not trains: three go in before two single ones, but not before four.
		{chamber(30, 12), []impl.Train{one, sized(30, 5, 7), three}, []int{2}},
		{chamber(30, 12), append([]impl.Train{three}, fourOf(30, 3)...), []int{1, 2, 3, 4}},
		// Of equal numbers the one that takes the first train at which they differ.
		{chamber(30, 5), fourOf(30, 5), []int{0}},
		{chamber(60, 5), fourOf(30, 5), []int{0, 1}},
		{chamber(90, 5), fourOf(30, 5), []int{0, 1, 2}},
		{chamber(30, 10), []impl.Train{two, one, sized(30, 5, 7)}, []int{0}},
		{chamber(30, 10), []impl.Train{one, two, sized(30, 5, 7)}, []int{0, 2}},
		{chamber(30, 10), []impl.Train{one, sized(30, 5, 7), two}, []int{0, 1}},
		{chamber(40, 5), []impl.Train{sized(20, 5, 1), sized(30, 5, 2), sized(10, 5, 3), sized(20, 5, 4)}, []int{0, 2}},
		{chamber(40, 5), []impl.Train{sized(50, 5, 1), sized(30, 5, 2), sized(20, 5, 3), sized(10, 5, 4)}, []int{1, 3}},
		// What does not go in at all is left out.
		{chamber(100, 12), []impl.Train{wideOne, one, longOne, two}, []int{1, 3}},
		{chamber(100, 12), []impl.Train{bad, one, {}, two}, []int{1, 3}},
		{chamber(100, 12), []impl.Train{bad}, nil},
		{chamber(100, 12), []impl.Train{{}, {Up: true}}, nil},
		// Of two trains with the same Id one goes in.
		{chamber(100, 12), []impl.Train{one, one}, []int{0}},
		{chamber(100, 12), []impl.Train{one, sized(10, 2, 9, 1)}, []int{1}},
		{chamber(100, 12), []impl.Train{one, two, one, two, one}, []int{0, 1}},
	}
	for i, k := range known {
		if best := impl.BestEntry(k.l, k.queue); !slices.Equal(best, k.best) {
			t.Errorf("%d: BestEntry(%s, %v) = %v, not %v", i, briefLock(k.l), k.queue, best, k.best)
		}
	}
}

// fourOf returns single boats of the same size.
func fourOf(length int, width int) []impl.Train {
	return []impl.Train{sized(length, width, 101), sized(length, width, 102), sized(length, width, 103), sized(length, width, 104)}
}

func TestBestEntryBehindThoseInside(t *testing.T) {
	one, two := sized(30, 5, 1), sized(30, 5, 2, 3)
	in := sized(30, 5, 11)
	known := []struct {
		l     impl.Lock
		queue []impl.Train
		best  []int
	}{
		{chamber(30, 10, in), []impl.Train{one}, []int{0}},
		{chamber(30, 9, in), []impl.Train{one}, nil},
		{chamber(60, 9, in), []impl.Train{one}, []int{0}},
		{chamber(59, 9, in), []impl.Train{one}, nil},
		{chamber(30, 10, in), []impl.Train{two, one}, []int{1}},
		{chamber(60, 10, in), []impl.Train{two, one}, []int{0}},
		{chamber(60, 10, in), []impl.Train{one, two}, []int{0, 1}},
		{chamber(90, 10, in), []impl.Train{two, one}, []int{0, 1}},
		// Those chosen lie behind those inside, not before them: before, the last one would be beside it.
		{chamber(100, 10, sized(40, 10, 12), in), []impl.Train{sized(30, 5, 1), sized(30, 10, 2)}, []int{0, 1}},
		{chamber(99, 10, sized(40, 10, 12), in), []impl.Train{sized(30, 5, 1), sized(30, 10, 2)}, []int{0}},
		{chamber(70, 10, in, sized(40, 10, 12)), []impl.Train{sized(30, 5, 1), sized(30, 10, 2)}, nil},
		{chamber(100, 10, in, sized(40, 10, 12)), []impl.Train{sized(30, 5, 1), sized(30, 10, 2)}, []int{0}},
		// The Ids of those inside are looked at.
		{chamber(100, 12, in), []impl.Train{in, one}, []int{1}},
		{chamber(100, 12, in, one), []impl.Train{sized(5, 2, 20, 21, 22, 11), sized(5, 2, 1), sized(5, 2, 2)}, []int{2}},
		// Those inside have no room themselves.
		{chamber(29, 12, in), []impl.Train{sized(1, 1, 1)}, nil},
		{chamber(100, 4, in), []impl.Train{sized(1, 1, 1)}, nil},
		// At most MaxQueue trains in all.
		{chamber(1000, 100, numbered(5)...), singles(101, 102, 103), []int{0, 1, 2}},
		{chamber(1000, 100, numbered(6)...), singles(101, 102, 103), []int{0, 1}},
		{chamber(1000, 100, numbered(7)...), singles(101, 102, 103), []int{0}},
		{chamber(1000, 100, numbered(7)...), []impl.Train{one, sized(9, 2, 101), sized(9, 2, 102, 103)}, []int{2}},
		{chamber(1000, 100, numbered(8)...), singles(101, 102, 103), nil},
	}
	for i, k := range known {
		if best := impl.BestEntry(k.l, k.queue); !slices.Equal(best, k.best) {
			t.Errorf("%d: BestEntry(%s, %v) = %v, not %v", i, briefLock(k.l), k.queue, best, k.best)
		}
	}
}

func TestBestEntryLooksAtTheFirstOnesAlone(t *testing.T) {
	all := []int{0, 1, 2, 3, 4, 5, 6, 7}
	full := sized(1, 1, 91, 92, 93, 94, 95, 96)
	queue := append(numbered(impl.MaxQueue), full)
	for _, k := range []struct {
		queue []impl.Train
		best  []int
	}{
		{queue[:7], all[:7]},
		{queue[:8], all},
		{queue, all},
		{append(make([]impl.Train, 7), full), []int{7}},
		{append(make([]impl.Train, 8), full), nil},
		{append(slices.Clone(queue), numbered(100000)...), all},
		{make([]impl.Train, 100000), nil},
		{slices.Repeat(numbered(1), 100000), []int{0}},
		{slices.Repeat([]impl.Train{up(slices.Repeat(rows{nil}, 100000)...)}, 100000), nil},
		{append(slices.Repeat([]impl.Train{up(manyBoats(100000))}, 7), full), []int{7}},
		{append(slices.Repeat([]impl.Train{up(slices.Repeat(rows{row(1)}, 100000)...)}, 7), full), []int{7}},
	} {
		if best := impl.BestEntry(chamber(1000, 100), k.queue); !slices.Equal(best, k.best) {
			t.Errorf("BestEntry of %d trains = %v, not %v", len(k.queue), best, k.best)
		}
	}
}

// TestMoreTrainsMayNeedLessRoom has a first train behind which the others lie otherwise.
func TestMoreTrainsMayNeedLessRoom(t *testing.T) {
	short, long, other := sized(10, 5, 1), sized(50, 5, 3), sized(50, 5, 4)
	shift := sized(10, 5, 2)
	l := chamber(60, 10)
	if impl.FitsChamber(l, []impl.Train{short, long, other}) || !impl.FitsChamber(l, []impl.Train{short, shift, long, other}) {
		t.Errorf("the trains do not lie as they should")
	}
	if best := impl.BestEntry(l, []impl.Train{short, shift, long, other}); !slices.Equal(best, []int{0, 1, 2, 3}) {
		t.Errorf("BestEntry = %v", best)
	}
	if best := impl.BestEntry(chamber(60, 10, short), []impl.Train{shift, long, other}); !slices.Equal(best, []int{0, 1, 2}) {
		t.Errorf("BestEntry behind the first one = %v", best)
	}
}

// TestNoChoiceHasMoreBoats compares with all choices, also with those that leave out what would make the others fit.
func TestNoChoiceHasMoreBoats(t *testing.T) {
	rnd := rand.New(rand.NewSource(52))
	sizes := map[int]int{}
	for range 3000 {
		inside := smallTrains(rnd, 500, rnd.Intn(4))
		l, queue := smallChamber(rnd, inside), smallTrains(rnd, 0, rnd.Intn(impl.MaxQueue+3))
		if rnd.Intn(10) == 0 && len(inside) > 0 && len(queue) > 0 {
			queue[rnd.Intn(len(queue))] = inside[0]
		}
		best := impl.BestEntry(l, queue)
		want := naiveBest(l, queue)
		if !impl.LockOk(l) {
			want = nil
		}
		if !slices.Equal(best, want) {
			t.Fatalf("BestEntry(%s, %v) = %v, not %v", briefLock(l), queue, best, want)
		}
		sizes[len(best)]++
	}
	for n := range 6 {
		if sizes[n] < 20 {
			t.Errorf("only %d entries have %d trains", sizes[n], n)
		}
	}
}

// TestBestEntryOfEqualTrains has many choices with the same number of boats.
func TestBestEntryOfEqualTrains(t *testing.T) {
	for count := range impl.MaxQueue + 1 {
		for room := range impl.MaxQueue + 1 {
			var queue []impl.Train
			for i := range count {
				queue = append(queue, sized(10, 7, i+1))
			}
			best := impl.BestEntry(chamber(max(1, 10*room), 12), queue)
			want := []int{0, 1, 2, 3, 4, 5, 6, 7}[:min(count, room)]
			if !slices.Equal(best, want) {
				t.Errorf("BestEntry of %d in a chamber for %d = %v", count, room, best)
			}
		}
	}
}

func TestBestEntryGoesIn(t *testing.T) {
	rnd := rand.New(rand.NewSource(53))
	for range 500 {
		l := smallChamber(rnd, nil)
		queue := smallTrains(rnd, 0, impl.MaxQueue)
		for i := range queue {
			queue[i].Up = true
		}
		open := withGate(l, impl.GateBelow)
		last := -1
		for _, i := range impl.BestEntry(open, queue) {
			last = i
			entered, ok := impl.EnterLock(open, at(90), queue[i])
			if !ok {
				t.Fatalf("%v does not go into %s", queue[i], briefLock(open))
			}
			open = entered
		}
		for _, train := range queue[last+1:] {
			if _, ok := impl.EnterLock(open, at(90), train); ok {
				t.Fatalf("%v goes into %s too", train, briefLock(open))
			}
		}
	}
}
