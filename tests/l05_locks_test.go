package tests

import (
	"fmt"
	"math"
	"slices"
	"testing"

	"loop.example/g03317/impl"
)

// plainLock has no number at a limit, and one unit of water more than the level 50 needs.
func plainLock(inside ...impl.Train) impl.Lock {
	return impl.Lock{Length: 100, Width: 12, SillAbove: 40, SillBelow: 10, Base: 20, Area: 2, Rate: 50, Water: 61, Inside: inside}
}

func withGate(l impl.Lock, gate int) impl.Lock {
	l.Gate = gate
	return l
}

// at returns a reach with a level from 0 to MaxAmount.
func at(level int) impl.Reach {
	return impl.Reach{Table: points{{X: 0, Y: 0}, {X: impl.MaxAmount, Y: impl.MaxAmount}}, Volume: level}
}

func sameTrains(a []impl.Train, b []impl.Train) bool {
	return slices.EqualFunc(a, b, sameTrain)
}

func sameLock(a impl.Lock, b impl.Lock) bool {
	return sameTrains(a.Inside, b.Inside) && numbersOfLock(a) == numbersOfLock(b)
}

func numbersOfLock(l impl.Lock) [9]int {
	return [9]int{l.Length, l.Width, l.SillAbove, l.SillBelow, l.Base, l.Area, l.Rate, l.Water, l.Gate}
}

// briefLock returns the beginning of what there may be very much of.
func briefLock(l impl.Lock) string {
	s := fmt.Sprint(numbersOfLock(l), len(l.Inside))
	for _, train := range l.Inside[:min(len(l.Inside), impl.MaxQueue+1)] {
		s += " " + brief(train)
	}
	return s
}

// singles returns trains of one boat each.
func singles(ids ...int) []impl.Train {
	var list []impl.Train
	for _, id := range ids {
		list = append(list, impl.Train{Up: id%2 == 0, Rows: rows{row(id)}})
	}
	return list
}

// numbered returns trains of one boat each with the Ids from 1 on.
func numbered(count int) []impl.Train {
	var list []impl.Train
	for i := range count {
		list = append(list, singles(i+1)...)
	}
	return list
}

// locksWith returns plain locks, but with each of the numbers at the place that set writes to.
func locksWith(set func(l *impl.Lock, n int), numbers ...int) []impl.Lock {
	var list []impl.Lock
	for _, n := range numbers {
		l := plainLock(up(row(1)))
		set(&l, n)
		list = append(list, l)
	}
	return list
}

func setChamberLength(l *impl.Lock, n int) { l.Length = n }
func setChamberWidth(l *impl.Lock, n int)  { l.Width = n }
func setSillAbove(l *impl.Lock, n int)     { l.SillAbove = n }
func setSillBelow(l *impl.Lock, n int)     { l.SillBelow = n }
func setBase(l *impl.Lock, n int)          { l.Base = n }
func setArea(l *impl.Lock, n int)          { l.Area = n }
func setRate(l *impl.Lock, n int)          { l.Rate = n }
func setWater(l *impl.Lock, n int)         { l.Water = n }
func setGate(l *impl.Lock, n int)          { l.Gate = n }

func validLocks() []impl.Lock {
	list := slices.Concat(
		locksWith(setChamberLength, 1, 2, 999, 1000),
		locksWith(setChamberWidth, 1, 2, 99, 100),
		locksWith(setSillAbove, 0, 1, 99999, 100000),
		locksWith(setSillBelow, 0, 1, 99999, 100000),
		locksWith(setBase, 0, 1, 99999, 100000),
		locksWith(setArea, 1, 2, 9999, 10000),
		locksWith(setRate, 1, 2, 99999, 100000),
		locksWith(setWater, 0, 1, 999999999, 1000000000),
		locksWith(setGate, 0, 1, 2),
		[]impl.Lock{
			{Length: 1, Width: 1, Area: 1, Rate: 1},
			{Length: 1000, Width: 100, SillAbove: 100000, SillBelow: 100000, Base: 100000, Area: 10000, Rate: 100000, Water: 1000000000, Gate: 2},
		},
	)
	// Whether the trains have room is not asked.
	for _, inside := range validQueues() {
		list = append(list, plainLock(inside...))
	}
	return list
}

// validQueues are trains that can be in one chamber, if it is long and wide enough.
func validQueues() [][]impl.Train {
	list := [][]impl.Train{nil, {}, {up(row(1, 2), row(3)), down(row(4))}, {down(row(1)), down(row(9999))}}
	for count := range impl.MaxQueue {
		list = append(list, numbered(count+1))
	}
	var most []impl.Train
	for i := range impl.MaxQueue {
		most = append(most, up(row(6*i+1, 6*i+2), row(6*i+3), row(6*i+4, 6*i+5, 6*i+6)))
	}
	list = append(list, most)
	for _, t := range validTrains() {
		list = append(list, []impl.Train{t, down(row(301))}, []impl.Train{up(row(301)), t})
	}
	return list
}

// invalidQueues are trains that cannot be in one chamber.
func invalidQueues() [][]impl.Train {
	last := up(row(40), row(41, 42, 43, 44, 1))
	list := [][]impl.Train{
		numbered(impl.MaxQueue + 1),
		slices.Repeat(numbered(1), impl.MaxQueue+1),
		slices.Repeat(numbered(1), 100000),
		make([]impl.Train, 100000),
		make([]impl.Train, 1),
		// An Id in two trains.
		{up(row(1)), up(row(1))},
		{up(row(1)), down(row(1))},
		{up(row(1)), up(row(2)), up(row(1))},
		{up(row(3)), up(row(1)), up(row(2)), up(row(2))},
		{up(row(1, 2), row(3)), down(row(4, 5), row(3))},
		{up(row(1, 2), row(3)), down(row(3, 5), row(4))},
		append(numbered(impl.MaxQueue-1), last),
		append([]impl.Train{last}, numbered(impl.MaxQueue-1)...),
	}
	for _, t := range invalidTrains() {
		if len(t.Rows) < 1000 {
			list = append(list, []impl.Train{t}, []impl.Train{up(row(301)), t}, []impl.Train{t, up(row(301))})
		}
	}
	many := up(slices.Repeat(rows{row(1)}, 100000)...)
	return append(list, []impl.Train{many}, slices.Repeat([]impl.Train{up(slices.Repeat(rows{nil}, 1000)...)}, 100))
}

func invalidLocks() []impl.Lock {
	// The last two are 1 and 2, if they are taken modulo 2^32.
	far := []int{math.MinInt, math.MinInt + 1, -1, math.MaxInt - 1, math.MaxInt, 1<<32 + 1, 1<<32 + 2}
	least, most := math.MinInt, math.MaxInt
	list := slices.Concat(
		locksWith(setChamberLength, append(far, 0, 1001)...),
		locksWith(setChamberWidth, append(far, 0, 101)...),
		locksWith(setSillAbove, append(far, 100001)...),
		locksWith(setSillBelow, append(far, 100001)...),
		locksWith(setBase, append(far, 100001)...),
		locksWith(setArea, append(far, 0, 10001)...),
		locksWith(setRate, append(far, 0, 100001)...),
		locksWith(setWater, append(far, 1000000001)...),
		locksWith(setGate, append(far, 3)...),
		[]impl.Lock{
			{},
			{Length: least, Width: least, SillAbove: least, SillBelow: least, Base: least, Area: least, Rate: least, Water: least, Gate: least},
			{Length: most, Width: most, SillAbove: most, SillBelow: most, Base: most, Area: most, Rate: most, Water: most, Gate: most},
		},
	)
	for _, inside := range invalidQueues() {
		list = append(list, plainLock(inside...))
	}
	return list
}

func TestLimitsOfChapter5(t *testing.T) {
	if impl.MaxRate != 100000 || impl.MaxQueue != 8 {
		t.Errorf("the limits are %d and %d", impl.MaxRate, impl.MaxQueue)
	}
	if impl.GateShut != 0 || impl.GateAbove != 1 || impl.GateBelow != 2 {
		t.Errorf("the gates are %d, %d and %d", impl.GateShut, impl.GateAbove, impl.GateBelow)
	}
}

func TestLockOk(t *testing.T) {
	for _, l := range validLocks() {
		if !impl.LockOk(l) {
			t.Errorf("LockOk(%s) is false", briefLock(l))
		}
	}
	for _, l := range invalidLocks() {
		if impl.LockOk(l) {
			t.Errorf("LockOk(%s) is true", briefLock(l))
		}
	}
}

func TestChamberLevel(t *testing.T) {
	known := []struct{ base, area, water, level int }{
		{20, 2, 60, 50}, {20, 2, 61, 50}, {20, 2, 62, 51}, {20, 2, 59, 49}, {20, 2, 0, 20}, {20, 2, 1, 20}, {20, 2, 2, 21},
		{0, 1, 0, 0}, {0, 1, 1, 1}, {0, 1, 99999, 99999}, {0, 1, 100000, 100000}, {0, 1, 100001, 100000}, {0, 1, 1000000000, 100000},
		{0, 10000, 9999, 0}, {0, 10000, 10000, 1}, {0, 10000, 999999999, 99999}, {0, 10000, 1000000000, 100000},
		{1, 10000, 999999999, 100000}, {1, 10000, 1000000000, 100000}, {2, 9999, 1000000000, 100000},
		{99999, 3, 2, 99999}, {99999, 3, 3, 100000}, {99999, 3, 6, 100000}, {100000, 10000, 0, 100000}, {100000, 1, 1000000000, 100000},
	}
	for _, k := range known {
		l := plainLock(up(row(1)))
		l.Base, l.Area, l.Water = k.base, k.area, k.water
		if level := impl.ChamberLevel(l); level != k.level {
			t.Errorf("ChamberLevel(%s) = %d, not %d", briefLock(l), level, k.level)
		}
	}
}

// openOnes returns an invalid lock with each gate open, or just as it is if the gate is what is invalid.
func openOnes(l impl.Lock) []impl.Lock {
	if l.Gate != impl.GateShut {
		return []impl.Lock{l}
	}
	return []impl.Lock{withGate(l, impl.GateAbove), withGate(l, impl.GateBelow)}
}

func TestInvalidLocksDoNothing(t *testing.T) {
	for _, l := range invalidLocks() {
		if level, best := impl.ChamberLevel(l), impl.BestEntry(l, singles(201, 202)); level != 0 || len(best) != 0 {
			t.Errorf("%s has the level %d and the entry %v", briefLock(l), level, best)
		}
		// The level of an invalid lock is 0, and yet no gate opens.
		for _, r := range []impl.Reach{at(90), at(50), at(10), at(1), at(0)} {
			filled, a := impl.FillLock(l, r)
			drained, b := impl.DrainLock(l, r)
			if !sameLock(filled, l) || !sameLock(drained, l) || !sameReach(a, r) || !sameReach(b, r) {
				t.Errorf("%s is filled or drained", briefLock(l))
			}
			for _, gate := range []int{impl.GateAbove, impl.GateBelow} {
				if opened, ok := impl.OpenGate(l, r, r, gate); ok || !sameLock(opened, l) {
					t.Errorf("OpenGate(%s) = %s, %v", briefLock(l), briefLock(opened), ok)
				}
			}
		}
		for _, open := range openOnes(l) {
			if shut := impl.ShutGate(open); !sameLock(shut, open) {
				t.Errorf("ShutGate(%s) = %s", briefLock(open), briefLock(shut))
			}
		}
	}
}

func TestNobodyPassesInvalidLocks(t *testing.T) {
	for _, l := range invalidLocks() {
		for _, open := range openOnes(l) {
			for _, train := range []impl.Train{up(row(201)), down(row(201))} {
				entered, ok := impl.EnterLock(open, at(100), train)
				if impl.MayEnter(open, at(100), train) || ok || !sameLock(entered, open) {
					t.Errorf("%s is entered: %s", briefLock(open), briefLock(entered))
				}
			}
			if left, gone, ok := impl.LeaveLock(open, at(100)); ok || !sameLock(left, open) || !isZeroTrain(gone) {
				t.Errorf("%v leaves %s", gone, briefLock(open))
			}
		}
	}
}
