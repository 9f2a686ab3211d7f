package tests

import (
	"math/rand"
	"testing"

	"loop.example/g03317/impl"
)

// basin returns a lock with these numbers and nothing of it full.
func basin(base int, area int, rate int, water int) impl.Lock {
	l := plainLock(up(row(1)), down(row(2, 3)))
	l.Base, l.Area, l.Rate, l.Water = base, area, rate, water
	return l
}

func withWater(l impl.Lock, water int) impl.Lock {
	l.Water = water
	return l
}

// steep has levels from 90 to 100 and a volume of 1 for each of them.
func steep(volume int, pipe ...int) impl.Reach {
	return impl.Reach{Table: points{{X: 90, Y: 0}, {X: 100, Y: 10}}, Volume: volume, Pipe: pipe}
}

// pool returns a reach with a level and much water.
func pool(level int) impl.Reach {
	return impl.Reach{Table: points{{X: level - 1, Y: 0}, {X: level, Y: 1000000}}, Volume: 1000000}
}

func TestFillLock(t *testing.T) {
	known := []struct {
		l     impl.Lock
		r     impl.Reach
		taken int
	}{
		// The level is 50, and what is above it does not count.
		{basin(20, 2, 50, 60), at(51), 2}, {basin(20, 2, 50, 60), at(52), 4}, {basin(20, 2, 50, 61), at(52), 4}, {basin(20, 2, 50, 62), at(52), 2},
		{basin(20, 2, 50, 60), at(74), 48}, {basin(20, 2, 50, 60), at(75), 50}, {basin(20, 2, 50, 60), at(76), 50}, {basin(20, 2, 50, 60), at(999), 50},
		{basin(20, 2, 50, 60), at(50), 0}, {basin(20, 2, 50, 60), at(49), 0}, {basin(20, 2, 50, 60), at(0), 0},
		{basin(20, 2, 50, 0), at(20), 0}, {basin(20, 2, 50, 0), at(21), 2}, {basin(20, 3, 50, 0), at(21), 3}, {basin(20, 2, 1, 0), at(21), 1},
		// No more than there is, and nothing of what is on its way.
		{basin(20, 2, 50, 60), steep(5, 30), 5}, {basin(20, 2, 50, 60), steep(10, 30), 10}, {basin(20, 2, 50, 60), steep(0, 30), 0}, {basin(20, 2, 3, 60), steep(5, 30), 3},
		// Very high reaches.
		{basin(0, 10000, 100000, 0), at(impl.MaxAmount), 100000}, {basin(0, 10000, 100000, 0), pool(11), 100000}, {basin(0, 10000, 100000, 0), pool(10), 100000}, {basin(0, 10000, 100000, 0), pool(9), 90000},
		{basin(100000, 1, 100000, 500), at(impl.MaxAmount), 100000}, {basin(100000, 1, 100000, 500), at(100001), 1}, {basin(100000, 1, 100000, 500), at(100000), 0},
		// At most MaxAmount in the chamber.
		{basin(0, 10000, 10, impl.MaxAmount-10), at(100000), 10}, {basin(0, 10000, 11, impl.MaxAmount-10), at(100000), 0},
		{basin(0, 10000, 11, impl.MaxAmount-11), at(100000), 11}, {basin(0, 10000, 100000, impl.MaxAmount-10), at(100000), 0},
		{basin(0, 10000, 100000, impl.MaxAmount-10000), at(100000), 10000}, {basin(0, 10000, 100000, impl.MaxAmount-9999), at(100000), 0},
		{basin(0, 1, 1, impl.MaxAmount), at(100001), 0}, {basin(0, 1, 1, impl.MaxAmount-1), at(100001), 1}, {basin(0, 1, 2, impl.MaxAmount-1), at(100001), 1},
		// What counts is what there is to take, not the rate.
		{basin(0, 10000, 100000, impl.MaxAmount-10), lifted(10, 100000, 1000000), 10}, {basin(0, 10000, 100000, impl.MaxAmount-10), lifted(11, 100000, 1000000), 0},
	}
	for i, k := range known {
		l, r := impl.FillLock(k.l, k.r)
		after := k.r
		after.Volume -= k.taken
		if !sameLock(l, withWater(k.l, k.l.Water+k.taken)) || !sameReach(r, after) {
			t.Errorf("%d: FillLock(%s, %v) = %s, %v, and not %d", i, briefLock(k.l), k.r, briefLock(l), r, k.taken)
		}
	}
}

func TestDrainLock(t *testing.T) {
	known := []struct {
		l    impl.Lock
		r    impl.Reach
		sent int
	}{
		{basin(20, 2, 50, 60), at(49), 2}, {basin(20, 2, 50, 60), at(48), 4}, {basin(20, 2, 50, 61), at(48), 4}, {basin(20, 2, 50, 62), at(48), 6},
		{basin(20, 2, 50, 60), at(26), 48}, {basin(20, 2, 50, 60), at(25), 50}, {basin(20, 2, 50, 60), at(24), 50}, {basin(20, 2, 50, 60), at(0), 50},
		{basin(20, 2, 50, 60), at(50), 0}, {basin(20, 2, 50, 60), at(51), 0}, {basin(20, 2, 50, 60), at(999), 0}, {basin(20, 2, 50, 60), at(impl.MaxAmount), 0},
		// No more than there is: a reach may be lower than the base.
		{basin(20, 2, 500, 60), at(21), 58}, {basin(20, 2, 500, 60), at(20), 60}, {basin(20, 2, 500, 60), at(19), 60}, {basin(20, 2, 500, 60), at(0), 60},
		{basin(20, 2, 500, 61), at(20), 60}, {basin(20, 2, 500, 61), at(19), 61}, {basin(20, 2, 60, 61), at(19), 60}, {basin(20, 2, 500, 0), at(0), 0},
		{basin(20, 2, 500, 1), at(19), 1}, {basin(20, 2, 500, 1), at(20), 0},
		// Very full chambers.
		{basin(0, 10000, 100000, impl.MaxAmount), at(0), 100000}, {basin(0, 10000, 100000, impl.MaxAmount), at(99990), 100000},
		{basin(0, 10000, 100000, impl.MaxAmount), at(99991), 90000}, {basin(100000, 1, 100000, impl.MaxAmount), at(99999), 1},
		{basin(100000, 1, 100000, impl.MaxAmount), at(100000), 0}, {basin(100000, 1, 100000, impl.MaxAmount), at(100001), 0},
	}
	for i, k := range known {
		l, r := impl.DrainLock(k.l, k.r)
		after := k.r
		after.Volume += k.sent
		if !sameLock(l, withWater(k.l, k.l.Water-k.sent)) || !sameReach(r, after) {
			t.Errorf("%d: DrainLock(%s, %v) = %s, %v, and not %d", i, briefLock(k.l), k.r, briefLock(l), r, k.sent)
		}
	}
}

func TestDrainLockIntoPipes(t *testing.T) {
	l := basin(20, 2, 50, 60) // 50 flow into these
	known := []struct {
		r, want impl.Reach
		sent    int
	}{
		{lake(0), lake(50), 50},
		{lake(0, 7), lake(0, 57), 50},
		{lake(0, 7, 8), lake(0, 7, 58), 50},
		{lake(0, impl.MaxAmount-50), lake(0, impl.MaxAmount), 50},
		{lake(0, impl.MaxAmount-49), lake(0, impl.MaxAmount-49), 0},
		{lake(0, impl.MaxAmount), lake(0, impl.MaxAmount), 0},
		{lake(4, impl.MaxAmount-54, 0), lake(4, impl.MaxAmount-54, 50), 50},
		{lake(4, impl.MaxAmount-53, 0), lake(4, impl.MaxAmount-53, 0), 0},
		// Less than the rate: the level is 49, or that of the chamber.
		{lake(490, impl.MaxAmount-492), lake(490, impl.MaxAmount-490), 2},
		{lake(490, impl.MaxAmount-491), lake(490, impl.MaxAmount-491), 0},
		{lake(500, 7), lake(500, 7), 0},
	}
	for i, k := range known {
		after, r := impl.DrainLock(l, k.r)
		if !sameLock(after, withWater(l, l.Water-k.sent)) || !sameReach(r, k.want) {
			t.Errorf("%d: DrainLock into %v = %s, %v", i, k.r, briefLock(after), r)
		}
	}
}

func TestNothingFlowsThroughAnOpenLock(t *testing.T) {
	for _, gate := range []int{impl.GateAbove, impl.GateBelow} {
		l := withGate(basin(20, 2, 50, 60), gate)
		for _, level := range []int{0, 30, 49, 50, 51, 70, impl.MaxAmount} {
			filled, a := impl.FillLock(l, at(level))
			drained, b := impl.DrainLock(l, at(level))
			if !sameLock(filled, l) || !sameLock(drained, l) || !sameReach(a, at(level)) || !sameReach(b, at(level)) {
				t.Errorf("water flows with the gate %d and the level %d", gate, level)
			}
		}
	}
}

func TestInvalidReachesFlowNowhere(t *testing.T) {
	for _, l := range []impl.Lock{basin(20, 2, 50, 60), basin(0, 1, 50, 0)} {
		for _, r := range invalidReaches() {
			filled, a := impl.FillLock(l, r)
			drained, b := impl.DrainLock(l, r)
			if !sameLock(filled, l) || !sameLock(drained, l) || !sameReach(a, r) || !sameReach(b, r) {
				t.Errorf("water flows between %s and %.120v", briefLock(l), r)
			}
		}
	}
}

func TestFilledAndDrainedOnesStayValid(t *testing.T) {
	for _, l := range validLocks() {
		for _, r := range validReaches() {
			filled, a := impl.FillLock(l, r)
			drained, b := impl.DrainLock(l, r)
			if !impl.LockOk(filled) || !impl.LockOk(drained) || !impl.ReachOk(a) || !impl.ReachOk(b) {
				t.Errorf("%s and %v are not valid after they have flowed", briefLock(l), r)
			}
			total := l.Water + impl.TotalOf(r)
			if filled.Water+impl.TotalOf(a) != total || drained.Water+impl.TotalOf(b) != total {
				t.Errorf("water is lost between %s and %v", briefLock(l), r)
			}
			up, down := filled.Water-l.Water, l.Water-drained.Water
			if up < 0 || up > l.Rate || down < 0 || down > l.Rate || up > 0 && down > 0 {
				t.Errorf("%d flow into %s, and %d out of it", up, briefLock(l), down)
			}
		}
	}
}

// naiveFlowIn pours one unit after the other, and is negative for what flows out.
func naiveFlowIn(l impl.Lock, r impl.Reach) int {
	n := 0
	wanted := l.Area * (impl.LevelOf(r) - (l.Base + l.Water/l.Area))
	for n < wanted && n < l.Rate && n < r.Volume {
		n++
	}
	for n > wanted && n > -l.Rate && n > -l.Water {
		n--
	}
	return n
}

func TestFlowsOfManyLocks(t *testing.T) {
	rnd := rand.New(rand.NewSource(54))
	filledOnes, drainedOnes := 0, 0
	for range 5000 {
		l := basin(rnd.Intn(30), 1+rnd.Intn(9), 1+rnd.Intn(60), rnd.Intn(120))
		r := impl.Reach{Table: randomTable(rnd), Volume: rnd.Intn(80), Pipe: repeated(3, rnd.Intn(3))}
		n := naiveFlowIn(l, r)
		filled, left := impl.FillLock(l, r)
		drained, more := impl.DrainLock(l, r)
		wantLeft := r
		wantLeft.Volume -= max(n, 0)
		if !sameLock(filled, withWater(l, l.Water+max(n, 0))) || !sameReach(left, wantLeft) {
			t.Fatalf("FillLock(%s, %v) = %s, %v, and not %d", briefLock(l), r, briefLock(filled), left, n)
		}
		if !sameLock(drained, withWater(l, l.Water+min(n, 0))) || !sameReach(more, impl.SendTo(r, -min(n, 0))) {
			t.Fatalf("DrainLock(%s, %v) = %s, %v, and not %d", briefLock(l), r, briefLock(drained), more, n)
		}
		if n > 0 {
			filledOnes++
		}
		if n < 0 {
			drainedOnes++
		}
	}
	if filledOnes < 1000 || drainedOnes < 1000 {
		t.Errorf("%d locks are filled and %d drained", filledOnes, drainedOnes)
	}
}

// TestAGateOpensAtLast fills and drains as often as the rate asks for, and not once more.
func TestAGateOpensAtLast(t *testing.T) {
	// It takes one unit less to be 1 above a level than to be 1 below it.
	for _, k := range []struct{ area, rate, high, low, fills, drains int }{
		{2, 50, 90, 20, 3, 3}, {2, 140, 90, 20, 1, 1}, {2, 138, 90, 20, 1, 1}, {2, 137, 90, 20, 2, 1}, {2, 136, 90, 20, 2, 2},
		{2, 1, 90, 20, 138, 137}, {7, 49, 90, 20, 10, 10}, {3, 100, 50, 49, 0, 0}, {3, 100, 50, 48, 1, 1},
	} {
		l := basin(0, k.area, k.rate, k.low*k.area)
		high := impl.Reach{Table: points{{X: k.high - 1, Y: 0}, {X: k.high, Y: 1}}, Volume: 1000000}
		low := impl.Reach{Table: points{{X: k.low - 1, Y: 0}, {X: k.low, Y: 1}}, Volume: 1000000}
		times := 0
		opened, ok := impl.OpenGate(l, high, low, impl.GateAbove)
		for ; !ok && times < 1000; times++ {
			l, high = impl.FillLock(l, high)
			opened, ok = impl.OpenGate(l, high, low, impl.GateAbove)
		}
		if !ok || opened.Gate != impl.GateAbove || times != k.fills {
			t.Errorf("%+v: the upper gate opens after %d", k, times)
		}
		l, times = withWater(l, k.high*k.area), 0
		opened, ok = impl.OpenGate(l, high, low, impl.GateBelow)
		for ; !ok && times < 1000; times++ {
			l, low = impl.DrainLock(l, low)
			opened, ok = impl.OpenGate(l, high, low, impl.GateBelow)
		}
		if !ok || opened.Gate != impl.GateBelow || times != k.drains {
			t.Errorf("%+v: the lower gate opens after %d", k, times)
		}
	}
}
