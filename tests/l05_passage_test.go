package tests

import (
	"math"
	"math/rand"
	"slices"
	"testing"

	"loop.example/g03317/impl"
)

// deep returns a train of one boat with a draught.
func deep(id int, draught int, bound bool) impl.Train {
	b := plainBoat(id)
	b.Draught = draught
	return impl.Train{Up: bound, Rows: rows{{b}}}
}

func TestOpenGate(t *testing.T) {
	l := plainLock(up(row(1)), down(row(2))) // the level is 50
	known := []struct {
		above, below int
		gate         int
		ok           bool
	}{
		{50, 10, impl.GateAbove, true}, {51, 10, impl.GateAbove, true}, {49, 10, impl.GateAbove, true},
		{52, 10, impl.GateAbove, false}, {48, 10, impl.GateAbove, false}, {90, 50, impl.GateAbove, false}, {0, 50, impl.GateAbove, false},
		{90, 50, impl.GateBelow, true}, {90, 51, impl.GateBelow, true}, {90, 49, impl.GateBelow, true},
		{90, 52, impl.GateBelow, false}, {90, 48, impl.GateBelow, false}, {50, 10, impl.GateBelow, false}, {50, 0, impl.GateBelow, false},
		{50, 50, impl.GateAbove, true}, {50, 50, impl.GateBelow, true},
		{impl.MaxAmount, 50, impl.GateAbove, false}, {50, impl.MaxAmount, impl.GateBelow, false},
		// The lower reach may be above the upper one.
		{50, 90, impl.GateAbove, true}, {10, 50, impl.GateBelow, true},
	}
	for _, k := range known {
		want := l
		if k.ok {
			want.Gate = k.gate
		}
		if opened, ok := impl.OpenGate(l, at(k.above), at(k.below), k.gate); ok != k.ok || !sameLock(opened, want) {
			t.Errorf("OpenGate between %d and %d of the gate %d = %s, %v", k.above, k.below, k.gate, briefLock(opened), ok)
		}
	}
}

func TestOpenGateAtTheLimits(t *testing.T) {
	for _, k := range []struct {
		l     impl.Lock
		level int
		ok    bool
	}{
		{basin(0, 1, 1, 0), 0, true}, {basin(0, 1, 1, 0), 1, true}, {basin(0, 1, 1, 0), 2, false}, {basin(1, 1, 1, 0), 0, true}, {basin(2, 1, 1, 0), 0, false},
		// The level is at most MaxLevel, however much water there is.
		{basin(100000, 1, 1, impl.MaxAmount), 100000, true}, {basin(100000, 1, 1, impl.MaxAmount), 100001, true},
		{basin(100000, 1, 1, impl.MaxAmount), 100002, false}, {basin(100000, 1, 1, impl.MaxAmount), 99999, true}, {basin(100000, 1, 1, impl.MaxAmount), 99998, false},
		// What does not make a whole level does not count.
		{basin(20, 10, 1, 309), 49, true}, {basin(20, 10, 1, 309), 51, true}, {basin(20, 10, 1, 309), 52, false}, {basin(20, 10, 1, 310), 52, true}, {basin(20, 10, 1, 310), 49, false},
	} {
		opened, ok := impl.OpenGate(k.l, at(k.level), at(99), impl.GateAbove)
		below, is := impl.OpenGate(k.l, at(99), at(k.level), impl.GateBelow)
		if ok != k.ok || is != k.ok || (opened.Gate == impl.GateAbove) != ok || (below.Gate == impl.GateBelow) != is {
			t.Errorf("the gates of %s open at %d: %v, %v", briefLock(k.l), k.level, ok, is)
		}
	}
}

func TestOpenGateRejects(t *testing.T) {
	l, r := plainLock(up(row(1))), at(50)
	reject := func(l impl.Lock, above impl.Reach, below impl.Reach, gate int) {
		if opened, ok := impl.OpenGate(l, above, below, gate); ok || !sameLock(opened, l) {
			t.Errorf("OpenGate(%s, %.120v, %.120v, %d) = %s, %v", briefLock(l), above, below, gate, briefLock(opened), ok)
		}
	}
	for _, gate := range []int{math.MinInt, -2, -1, 0, 3, 4, 1<<32 + 1, 1<<32 + 2, math.MaxInt} {
		reject(l, r, r, gate)
	}
	for _, gate := range []int{impl.GateShut, impl.GateAbove, impl.GateBelow} {
		reject(withGate(l, impl.GateAbove), r, r, gate)
		reject(withGate(l, impl.GateBelow), r, r, gate)
		// The reach on the other side has to be valid, too.
		for _, bad := range invalidReaches() {
			reject(l, r, bad, gate)
			reject(l, bad, r, gate)
			reject(l, bad, bad, gate)
		}
	}
	// The level of an invalid reach is 0, and yet no gate opens.
	for _, gate := range []int{impl.GateAbove, impl.GateBelow} {
		reject(basin(0, 1, 1, 0), impl.Reach{}, impl.Reach{}, gate)
	}
}

func TestShutGate(t *testing.T) {
	for _, l := range validLocks() {
		for _, gate := range []int{impl.GateShut, impl.GateAbove, impl.GateBelow} {
			if shut := impl.ShutGate(withGate(l, gate)); !sameLock(shut, withGate(l, impl.GateShut)) {
				t.Errorf("ShutGate(%s) = %s", briefLock(withGate(l, gate)), briefLock(shut))
			}
		}
	}
}

func TestMayEnter(t *testing.T) {
	l := plainLock(down(row(2))) // the sills are 40 and 10
	known := []struct {
		gate, level int
		train       impl.Train
		may         bool
	}{
		{impl.GateAbove, 48, deep(1, 8, false), true}, {impl.GateAbove, 47, deep(1, 8, false), false}, {impl.GateAbove, 49, deep(1, 8, false), true},
		{impl.GateAbove, 48, deep(1, 9, false), false}, {impl.GateAbove, 41, deep(1, 1, false), true}, {impl.GateAbove, 40, deep(1, 1, false), false},
		{impl.GateAbove, 39, deep(1, 1, false), false}, {impl.GateAbove, 0, deep(1, 1, false), false}, {impl.GateAbove, 18, deep(1, 8, false), false},
		{impl.GateBelow, 18, deep(1, 8, true), true}, {impl.GateBelow, 17, deep(1, 8, true), false}, {impl.GateBelow, 19, deep(1, 8, true), true},
		{impl.GateBelow, 18, deep(1, 9, true), false}, {impl.GateBelow, 11, deep(1, 1, true), true}, {impl.GateBelow, 10, deep(1, 1, true), false},
		{impl.GateBelow, 9, deep(1, 1, true), false}, {impl.GateBelow, 0, deep(1, 1, true), false},
		// Nobody enters by the gate towards which he is bound, or by none.
		{impl.GateAbove, 90, deep(1, 8, true), false}, {impl.GateBelow, 90, deep(1, 8, false), false},
		{impl.GateShut, 90, deep(1, 8, true), false}, {impl.GateShut, 90, deep(1, 8, false), false},
		// The greatest draught of a boat counts.
		{impl.GateBelow, 18, up(row(1), deep(3, 9, true).Rows[0]), false}, {impl.GateBelow, 19, up(row(1), deep(3, 9, true).Rows[0]), true},
		{impl.GateAbove, 140, deep(1, 100, false), true}, {impl.GateAbove, 139, deep(1, 100, false), false},
		{impl.GateAbove, impl.MaxAmount, deep(1, 100, false), true},
		// Whether there is room for it, or it is there already, is not asked.
		{impl.GateBelow, 90, up(row(11, 12, 13, 14)), true}, {impl.GateBelow, 90, up(row(2)), true}, {impl.GateAbove, 90, down(row(2)), true},
	}
	for _, k := range known {
		open := withGate(l, k.gate)
		if may := impl.MayEnter(open, at(k.level), k.train); may != k.may {
			t.Errorf("MayEnter with the gate %d at %d of %v is %v", k.gate, k.level, k.train, may)
		}
	}
	for _, inside := range validQueues() {
		open := withGate(plainLock(inside...), impl.GateBelow)
		if !impl.MayEnter(open, at(90), up(row(201))) {
			t.Errorf("MayEnter is false for %s", briefLock(open))
		}
	}
}

func TestMayEnterAsksForWhatIsValid(t *testing.T) {
	for _, gate := range []int{impl.GateAbove, impl.GateBelow} {
		l := plainLock()
		l.SillAbove, l.SillBelow, l.Gate = 0, 0, gate
		for _, r := range invalidReaches() {
			rejectEntry(t, l, r, deep(1, 1, gate == impl.GateBelow))
		}
		for _, train := range invalidTrains() {
			train.Up = gate == impl.GateBelow
			rejectEntry(t, l, at(100), train)
		}
		if train := deep(1, 1, gate == impl.GateBelow); !impl.MayEnter(l, at(100), train) {
			t.Errorf("%v may not enter by the gate %d", train, gate)
		}
	}
}

func rejectEntry(t *testing.T, l impl.Lock, r impl.Reach, train impl.Train) {
	entered, ok := impl.EnterLock(l, r, train)
	if impl.MayEnter(l, r, train) || ok || !sameLock(entered, l) {
		t.Errorf("%s enters %s from %.120v: %s, %v", brief(train), briefLock(l), r, briefLock(entered), ok)
	}
}

func TestEnterLock(t *testing.T) {
	in := sized(30, 5, 11)
	known := []struct {
		l     impl.Lock
		level int
		train impl.Train
		ok    bool
	}{
		{chamber(30, 5), 90, sized(30, 5, 1), true},
		{chamber(29, 5), 90, sized(30, 5, 1), false},
		{chamber(30, 4), 90, sized(30, 5, 1), false},
		{chamber(30, 5), 18, sized(30, 5, 1), true},
		{chamber(30, 5), 17, sized(30, 5, 1), false},
		// Beside and behind those that are there.
		{chamber(30, 10, in), 90, sized(30, 5, 1), true},
		{chamber(30, 9, in), 90, sized(30, 5, 1), false},
		{chamber(60, 9, in), 90, sized(30, 5, 1), true},
		{chamber(59, 9, in), 90, sized(30, 5, 1), false},
		{chamber(40, 10, in), 90, sized(40, 5, 1), true},
		{chamber(39, 10, in), 90, sized(40, 5, 1), false},
		{chamber(60, 10, sized(30, 10, 12), in), 90, sized(30, 5, 1), true},
		{chamber(80, 10, in, sized(30, 10, 12)), 90, sized(30, 5, 1), false},
		{chamber(90, 10, in, sized(30, 10, 12)), 90, sized(30, 5, 1), true},
		// Each Id once, and at most MaxQueue trains.
		{chamber(100, 10, in), 90, in, false},
		{chamber(100, 20, in), 90, sized(30, 2, 1, 2, 11), false},
		{chamber(100, 20, in), 90, sized(30, 2, 1, 2, 12), true},
		{chamber(1000, 100, numbered(7)...), 90, sized(30, 5, 101), true},
		{chamber(1000, 100, numbered(8)...), 90, sized(30, 5, 101), false},
		// Those inside have no room themselves.
		{chamber(29, 10, in), 90, sized(1, 1, 1), false},
	}
	for i, k := range known {
		open := withGate(k.l, impl.GateBelow)
		want := open
		if k.ok {
			want.Inside = append(slices.Clone(open.Inside), k.train)
		}
		if entered, ok := impl.EnterLock(open, at(k.level), k.train); ok != k.ok || !sameLock(entered, want) {
			t.Errorf("%d: EnterLock(%s, %v) = %s, %v", i, briefLock(open), k.train, briefLock(entered), ok)
		}
		rejectEntry(t, k.l, at(90), k.train)
		rejectEntry(t, withGate(k.l, impl.GateAbove), at(90), k.train)
	}
}

func TestEnterLockIsItsParts(t *testing.T) {
	rnd := rand.New(rand.NewSource(55))
	count := map[bool]int{}
	for range 5000 {
		l := withGate(smallChamber(rnd, smallTrains(rnd, 500, rnd.Intn(4))), rnd.Intn(3))
		l.Length += 60
		train, r := smallTrain(rnd, 500*rnd.Intn(2)), at(rnd.Intn(60))
		want := l
		all := append(slices.Clone(l.Inside), train)
		fits := impl.MayEnter(l, r, train) && naiveFits(l, all)
		if fits {
			want.Inside = all
		}
		if entered, ok := impl.EnterLock(l, r, train); ok != fits || !sameLock(entered, want) {
			t.Fatalf("EnterLock(%s, %v, %v) = %s, %v", briefLock(l), r, train, briefLock(entered), ok)
		}
		count[fits]++
	}
	if count[true] < 300 {
		t.Errorf("only %d trains have entered", count[true])
	}
}

func TestLeaveLock(t *testing.T) {
	a, b, c, d := deep(1, 8, true), deep(2, 3, true), deep(3, 8, false), deep(4, 3, false)
	known := []struct {
		gate, level int
		inside      []impl.Train
		k           int
	}{
		// The sills are 40 and 10.
		{impl.GateAbove, 48, []impl.Train{a}, 0}, {impl.GateAbove, 47, []impl.Train{a}, -1}, {impl.GateAbove, 90, []impl.Train{c}, -1},
		{impl.GateBelow, 18, []impl.Train{c}, 0}, {impl.GateBelow, 17, []impl.Train{c}, -1}, {impl.GateBelow, 90, []impl.Train{a}, -1},
		{impl.GateShut, 90, []impl.Train{a, b, c, d}, -1}, {impl.GateAbove, 90, nil, -1}, {impl.GateBelow, 90, nil, -1},
		// The first one that can, even if it is not the first one.
		{impl.GateAbove, 90, []impl.Train{a, b}, 0}, {impl.GateAbove, 90, []impl.Train{b, a}, 0}, {impl.GateAbove, 47, []impl.Train{a, b}, 1},
		{impl.GateAbove, 43, []impl.Train{a, b}, 1}, {impl.GateAbove, 42, []impl.Train{a, b}, -1}, {impl.GateAbove, 40, []impl.Train{a, b}, -1}, {impl.GateAbove, 0, []impl.Train{a, b}, -1},
		{impl.GateBelow, 90, []impl.Train{a, c, b, d}, 1}, {impl.GateBelow, 17, []impl.Train{a, c, b, d}, 3}, {impl.GateBelow, 13, []impl.Train{a, c, b, d}, 3},
		{impl.GateBelow, 12, []impl.Train{a, c, b, d}, -1}, {impl.GateAbove, 90, []impl.Train{c, d, a, b}, 2}, {impl.GateAbove, 47, []impl.Train{c, d, a, b}, 3},
		{impl.GateAbove, impl.MaxAmount, []impl.Train{c, d, a, b}, 2}, {impl.GateBelow, 0, []impl.Train{c, d, a, b}, -1},
		// The greatest draught of a boat counts.
		{impl.GateAbove, 48, []impl.Train{up(row(11), deep(12, 9, true).Rows[0]), b}, 1}, {impl.GateAbove, 49, []impl.Train{up(row(11), deep(12, 9, true).Rows[0]), b}, 0},
	}
	for i, k := range known {
		l := withGate(plainLock(k.inside...), k.gate)
		want, wantGone := l, impl.Train{}
		if k.k >= 0 {
			wantGone = k.inside[k.k]
			want.Inside = slices.Delete(slices.Clone(k.inside), k.k, k.k+1)
		}
		left, gone, ok := impl.LeaveLock(l, at(k.level))
		if ok != (k.k >= 0) || !sameTrain(gone, wantGone) || !sameLock(left, want) {
			t.Errorf("%d: LeaveLock(%s) = %s, %v, %v", i, briefLock(l), briefLock(left), gone, ok)
		}
	}
}

func TestNobodyLeavesIntoInvalidReaches(t *testing.T) {
	for _, gate := range []int{impl.GateAbove, impl.GateBelow} {
		l := withGate(plainLock(deep(1, 1, gate == impl.GateAbove)), gate)
		l.SillAbove, l.SillBelow = 0, 0
		for _, r := range invalidReaches() {
			if left, gone, ok := impl.LeaveLock(l, r); ok || !sameLock(left, l) || !isZeroTrain(gone) {
				t.Errorf("LeaveLock(%s, %.120v) = %s, %v, %v", briefLock(l), r, briefLock(left), gone, ok)
			}
		}
	}
}

func TestAllLeaveInOrder(t *testing.T) {
	for _, inside := range validQueues() {
		l := withGate(plainLock(inside...), impl.GateAbove)
		l.SillAbove = 0
		var want, stay []impl.Train
		for _, train := range inside {
			if train.Up {
				want = append(want, train)
			} else {
				stay = append(stay, train)
			}
		}
		var gone []impl.Train
		for {
			left, one, ok := impl.LeaveLock(l, at(100))
			l = left
			if !ok {
				break
			}
			gone = append(gone, one)
		}
		if !sameTrains(gone, want) || !sameTrains(l.Inside, stay) {
			t.Errorf("%v leave, and %v stay", gone, l.Inside)
		}
	}
}

func TestALockageUpAndDown(t *testing.T) {
	high := impl.Reach{Table: points{{X: 40, Y: 0}, {X: 90, Y: 5000}}, Volume: 2000} // the level 60
	low := impl.Reach{Table: points{{X: 0, Y: 0}, {X: 90, Y: 9000}}, Volume: 2000}   // the level 20
	l := impl.Lock{Length: 40, Width: 10, SillAbove: 40, SillBelow: 10, Base: 10, Area: 2, Rate: 50, Water: 20}
	climbs, dives := sized(30, 5, 1), impl.Train{Up: false, Rows: sized(40, 10, 2).Rows}
	total := impl.TotalOf(high) + impl.TotalOf(low) + l.Water

	l, opened := impl.OpenGate(l, high, low, impl.GateBelow)
	l, entered := impl.EnterLock(l, low, climbs)
	l = impl.ShutGate(l)
	l, high = impl.FillLock(l, high)
	l, high = impl.FillLock(l, high)
	if !opened || !entered || l.Water != 100 || high.Volume != 1920 || low.Volume != 2000 {
		t.Errorf("%s is not full: %v, %v", briefLock(l), high, low)
	}
	l, opened = impl.OpenGate(l, high, low, impl.GateAbove)
	_, early := impl.EnterLock(l, high, dives)
	l, gone, left := impl.LeaveLock(l, high)
	l, entered = impl.EnterLock(l, high, dives)
	if !opened || early || !left || !entered || !sameTrain(gone, climbs) || !sameTrains(l.Inside, []impl.Train{dives}) {
		t.Errorf("%v has left, and %s is there", gone, briefLock(l))
	}
	l = impl.ShutGate(l)
	l, low = impl.DrainLock(l, low)
	l, low = impl.DrainLock(l, low)
	l, opened = impl.OpenGate(l, high, low, impl.GateBelow)
	l, gone, left = impl.LeaveLock(l, low)
	if !opened || !left || !sameTrain(gone, dives) || len(l.Inside) != 0 || l.Water != 22 || low.Volume != 2078 {
		t.Errorf("%v has left, and %s and %v are there", gone, briefLock(l), low)
	}
	if impl.TotalOf(high)+impl.TotalOf(low)+l.Water != total {
		t.Errorf("water is lost")
	}
}

// traffic is a lock between two reaches with trains on both sides, where one thing is done at a
// time. The gate is the one that shall open next.
type traffic struct {
	lock         impl.Lock
	gate         int
	above, below impl.Reach
	waiting      []impl.Train
	arrived      []impl.Train
}

func (s *traffic) act(rnd *rand.Rand, t *testing.T) {
	switch rnd.Intn(12) {
	case 0, 1, 2, 3:
		s.level()
	case 4, 5:
		s.lock, _ = impl.OpenGate(s.lock, s.above, s.below, s.gate)
	case 6:
		s.lock, s.gate = impl.ShutGate(s.lock), impl.GateAbove+rnd.Intn(2)
	case 7, 8, 9:
		s.enter(rnd, t)
	default:
		s.leave(t)
	}
	s.above, s.below = impl.FlowIn(s.above), impl.FlowIn(s.below)
}

// level lets water flow between the chamber and the reach at the gate, one way or the other.
func (s *traffic) level() {
	if s.gate == impl.GateAbove {
		s.lock, s.above = impl.FillLock(s.lock, s.above)
		s.lock, s.above = impl.DrainLock(s.lock, s.above)
		return
	}
	s.lock, s.below = impl.FillLock(s.lock, s.below)
	s.lock, s.below = impl.DrainLock(s.lock, s.below)
}

// depth tells how deep it is above the sill of the open gate, and the reach from which it is.
func (s *traffic) depth() (int, impl.Reach) {
	if s.lock.Gate == impl.GateAbove {
		return impl.LevelOf(s.above) - s.lock.SillAbove, s.above
	}
	return impl.LevelOf(s.below) - s.lock.SillBelow, s.below
}

func (s *traffic) enter(rnd *rand.Rand, t *testing.T) {
	if len(s.waiting) == 0 {
		return
	}
	i := rnd.Intn(len(s.waiting))
	train := s.waiting[i]
	depth, from := s.depth()
	entered, ok := impl.EnterLock(s.lock, from, train)
	s.lock = entered
	if !ok {
		return
	}
	s.waiting = slices.Delete(s.waiting, i, i+1)
	if depth < impl.DraughtOf(train) || train.Up != (entered.Gate == impl.GateBelow) {
		t.Errorf("%v has entered %s with the depth %d", train, briefLock(entered), depth)
	}
}

func (s *traffic) leave(t *testing.T) {
	depth, to := s.depth()
	left, train, ok := impl.LeaveLock(s.lock, to)
	s.lock = left
	if !ok {
		return
	}
	s.arrived = append(s.arrived, train)
	if depth < impl.DraughtOf(train) || train.Up != (left.Gate == impl.GateAbove) {
		t.Errorf("%v has left %s with the depth %d", train, briefLock(left), depth)
	}
}

func (s *traffic) check(total int, ids []int, t *testing.T) {
	if impl.TotalOf(s.above)+impl.TotalOf(s.below)+s.lock.Water != total {
		t.Fatalf("water is lost: %v, %v, %s", s.above, s.below, briefLock(s.lock))
	}
	if !impl.LockOk(s.lock) || !impl.FitsChamber(s.lock, s.lock.Inside) {
		t.Fatalf("%s is not as a lock should be", briefLock(s.lock))
	}
	var places []int
	for _, train := range slices.Concat(s.waiting, s.lock.Inside, s.arrived) {
		places = append(places, impl.IdsOf(train)...)
	}
	slices.Sort(places)
	if !slices.Equal(places, ids) {
		t.Fatalf("the boats are %v", places)
	}
}

// sea returns a reach with 1000 for each level.
func sea(level int, delay int) impl.Reach {
	return impl.Reach{Table: points{{X: 0, Y: 0}, {X: 100, Y: 100000}}, Volume: 1000 * level, Pipe: repeated(7, delay)}
}

// TestALockageLosesNoWater does what it likes with locks, and finds all water and every boat each time.
func TestALockageLosesNoWater(t *testing.T) {
	rnd := rand.New(rand.NewSource(56))
	arrived := 0
	for range 100 {
		s := traffic{lock: smallChamber(rnd, nil), gate: impl.GateAbove, above: sea(60, rnd.Intn(3)), below: sea(30, rnd.Intn(3))}
		s.lock.SillAbove, s.lock.SillBelow, s.lock.Rate = 45+rnd.Intn(10), 15+rnd.Intn(10), 5+rnd.Intn(60)
		var ids []int
		for i := range 12 {
			train := smallTrain(rnd, 10*i)
			s.waiting = append(s.waiting, train)
			ids = append(ids, impl.IdsOf(train)...)
		}
		slices.Sort(ids)
		total := impl.TotalOf(s.above) + impl.TotalOf(s.below) + s.lock.Water
		for range 400 {
			s.act(rnd, t)
			s.check(total, ids, t)
		}
		arrived += len(s.arrived)
	}
	if arrived < 300 {
		t.Errorf("only %d trains have arrived", arrived)
	}
}
