package tests

import (
	"math"
	"math/rand"
	"slices"
	"testing"

	"loop.example/g03317/impl"
)

// ranked returns a train of one boat of a class.
func ranked(id int, class int, bound bool) impl.Train {
	b := plainBoat(id)
	b.Class = class
	return impl.Train{Up: bound, Rows: rows{{b}}}
}

// waits returns the call of a small boat that is bound downstream.
func waits(id int, since int, booked int) impl.Call {
	return impl.Call{Train: ranked(id, impl.ClassSmall, false), Since: since, Booked: booked}
}

// ofClass returns the call, without an appointment, of a boat of a class.
func ofClass(class int, since int) impl.Call {
	return impl.Call{Train: ranked(1, class, true), Since: since, Booked: -1}
}

func validCalls() []impl.Call {
	var list []impl.Call
	for _, train := range validTrains() {
		list = append(list, impl.Call{Train: train, Since: 30, Booked: -1}, impl.Call{Train: train, Since: 30, Booked: 40})
	}
	for _, since := range []int{0, 1, 999999, 1000000} {
		for _, booked := range []int{-1, 0, 1, 999999, 1000000} {
			list = append(list, waits(1, since, booked))
		}
	}
	return list
}

// farTimes are not in the range -1 to MaxTime; the last two are 1 and -1, if they are taken modulo 2^32.
func farTimes() []int {
	return []int{math.MinInt, math.MinInt + 1, -1000000, -2, impl.MaxTime + 1, math.MaxInt - 1, math.MaxInt, 1<<32 + 1, 1<<32 - 1}
}

func invalidCalls() []impl.Call {
	var list []impl.Call
	for _, train := range invalidTrains() {
		list = append(list, impl.Call{Train: train, Since: 30, Booked: -1}, impl.Call{Train: train, Since: 30, Booked: 30})
	}
	for _, n := range farTimes() {
		list = append(list, waits(1, n, -1), waits(1, n, 30), waits(1, 30, n), waits(1, n, n))
	}
	return append(list, impl.Call{}, impl.Call{Booked: -1}, waits(1, -1, -1), waits(1, -1, 30))
}

// someTimes are those around all limits of validCalls and invalidCalls.
func someTimes() []int {
	return append(farTimes(), -1, 0, 1, 29, 30, 31, 40, 50, 70, 100, impl.MaxTime-1, impl.MaxTime)
}

func TestLimitsOfChapter6(t *testing.T) {
	limits := [][2]int{
		{impl.MaxTime, 1000000}, {impl.AgeStep, 20}, {impl.MaxTurn, 3}, {impl.MaxCalls, 24}, {impl.MaxPauses, 8},
	}
	for i, l := range limits {
		if l[0] != l[1] {
			t.Errorf("limit %d is %d, not %d", i, l[0], l[1])
		}
	}
}

func TestCallOk(t *testing.T) {
	for _, c := range validCalls() {
		if !impl.CallOk(c) {
			t.Errorf("CallOk(%v) is false", c)
		}
	}
	for _, c := range invalidCalls() {
		if impl.CallOk(c) {
			t.Errorf("CallOk of %s, %d and %d is true", brief(c.Train), c.Since, c.Booked)
		}
	}
}

func TestRankOf(t *testing.T) {
	last := impl.MaxTime
	known := []struct {
		c         impl.Call
		now, rank int
	}{
		// Each AgeStep makes the rank less, but it is at least 0.
		{ofClass(0, 100), 100, 0}, {ofClass(0, 100), 119, 0}, {ofClass(0, 100), 120, 0}, {ofClass(0, 100), last, 0},
		{ofClass(1, 100), 100, 1}, {ofClass(1, 100), 119, 1}, {ofClass(1, 100), 120, 0}, {ofClass(1, 100), 121, 0},
		{ofClass(1, 100), 139, 0}, {ofClass(1, 100), 140, 0}, {ofClass(1, 100), last, 0},
		{ofClass(2, 100), 100, 2}, {ofClass(2, 100), 119, 2}, {ofClass(2, 100), 120, 1}, {ofClass(2, 100), 139, 1},
		{ofClass(2, 100), 140, 0}, {ofClass(2, 100), 141, 0}, {ofClass(2, 100), 160, 0}, {ofClass(2, 100), last, 0},
		// Before Since and behind MaxTime there is none.
		{ofClass(0, 100), 99, 3}, {ofClass(2, 100), 99, 3}, {ofClass(2, 100), 0, 3}, {ofClass(2, 100), -1, 3}, {ofClass(2, 100), math.MinInt, 3},
		{ofClass(2, 100), last + 1, 3}, {ofClass(0, 100), last + 1, 3}, {ofClass(2, 100), math.MaxInt, 3},
		{ofClass(2, 0), 0, 2}, {ofClass(2, 0), 19, 2}, {ofClass(2, 0), 20, 1}, {ofClass(2, 0), 40, 0}, {ofClass(2, 0), last, 0}, {ofClass(2, 0), -1, 3},
		{ofClass(2, last), last, 2}, {ofClass(2, last), last - 1, 3}, {ofClass(2, last), last + 1, 3},
		{ofClass(2, last-19), last, 2}, {ofClass(2, last-20), last, 1}, {ofClass(2, last-40), last, 0},
		// An appointment counts from its time on, for ever.
		{waits(1, 100, 110), 109, 2}, {waits(1, 100, 110), 110, -1}, {waits(1, 100, 110), 111, -1}, {waits(1, 100, 110), last, -1},
		{waits(1, 100, 150), 119, 2}, {waits(1, 100, 150), 120, 1}, {waits(1, 100, 150), 149, 0}, {waits(1, 100, 150), 150, -1},
		{waits(1, 100, 100), 100, -1}, {waits(1, 100, 99), 100, -1}, {waits(1, 100, 0), 100, -1}, {waits(1, 0, 0), 0, -1}, {waits(1, 0, 1), 0, 2},
		{waits(1, 100, 50), 99, 3}, {waits(1, 100, 50), 50, 3}, {waits(1, 100, 50), last + 1, 3}, {waits(1, 100, 150), last + 1, 3},
		{waits(1, 0, last), last - 1, 0}, {waits(1, 0, last), last, -1}, {waits(1, last, last), last, -1}, {waits(1, last, 0), last, -1},
	}
	for _, k := range known {
		if rank := impl.RankOf(k.c, k.now); rank != k.rank {
			t.Errorf("RankOf(%v, %d) = %d, not %d", k.c, k.now, rank, k.rank)
		}
	}
}

func TestRankIsThatOfTheLeastClass(t *testing.T) {
	mixed := func(list ...int) impl.Call {
		c := impl.Call{Train: up(), Booked: -1}
		for i, class := range list {
			c.Train.Rows = append(c.Train.Rows, ranked(i+1, class, true).Rows[0])
		}
		return c
	}
	for _, k := range []struct {
		c                  impl.Call
		now, rank, another int
	}{
		{mixed(2, 2), 0, 2, 20}, {mixed(2, 1), 0, 1, 20}, {mixed(1, 2), 0, 1, 20}, {mixed(2, 2, 1), 19, 1, 20}, {mixed(2, 1, 1, 2, 2, 2), 5, 1, 20},
	} {
		if rank, older := impl.RankOf(k.c, k.now), impl.RankOf(k.c, k.another); rank != k.rank || older != k.rank-1 {
			t.Errorf("%v has the ranks %d and %d", k.c, rank, older)
		}
	}
	if rank := impl.RankOf(mixed(2, 1, 0, 1), 7); rank != 0 {
		t.Errorf("the rank with a passenger boat is %d", rank)
	}
}

// naiveRank lets a valid call grow older time by time.
func naiveRank(c impl.Call, now int) int {
	if now < c.Since || now > impl.MaxTime {
		return 3
	}
	if c.Booked >= 0 && now >= c.Booked {
		return -1
	}
	rank := numbers(c.Train).class
	for age := 1; age <= now-c.Since && rank > 0; age++ {
		if age%impl.AgeStep == 0 {
			rank--
		}
	}
	return rank
}

func TestRankOfManyCalls(t *testing.T) {
	for _, c := range validCalls() {
		times := someTimes()
		for age := -3; age <= 100; age++ {
			times = append(times, c.Since+age)
		}
		for _, now := range times {
			if rank := impl.RankOf(c, now); rank != naiveRank(c, now) {
				t.Errorf("RankOf(%v, %d) = %d, not %d", c, now, rank, naiveRank(c, now))
			}
		}
	}
}

func TestInvalidCallsHaveNoRank(t *testing.T) {
	good := waits(2, 0, 0)
	for _, c := range invalidCalls() {
		for _, now := range someTimes() {
			if rank := impl.RankOf(c, now); rank != 3 {
				t.Errorf("RankOf %s, %d and %d at %d is %d", brief(c.Train), c.Since, c.Booked, now, rank)
			}
			if impl.ComesBefore(c, good, now) || impl.ComesBefore(good, c, now) || impl.ComesBefore(c, c, now) {
				t.Errorf("%s, %d and %d stands in the order at %d", brief(c.Train), c.Since, c.Booked, now)
			}
		}
	}
}

func TestComesBefore(t *testing.T) {
	with := func(since int, booked int, list ...[]impl.Boat) impl.Call {
		return impl.Call{Train: up(list...), Since: since, Booked: booked}
	}
	// Each one goes before the next one; the numbers are Since and Booked.
	known := []struct {
		now           int
		first, second impl.Call
	}{
		// The rank, whatever the rest is.
		{100, ofClass(0, 100), ofClass(1, 99)}, {100, ofClass(1, 100), ofClass(2, 99)}, {100, ofClass(0, 100), ofClass(2, 81)},
		{100, waits(9, 100, 100), ofClass(0, 0)}, {100, waits(9, 100, 0), ofClass(0, 0)}, {100, ofClass(1, 90), waits(1, 89, 101)},
		// What it becomes with the time.
		{100, ofClass(2, 79), ofClass(1, 81)}, {100, ofClass(2, 80), ofClass(1, 81)}, {100, ofClass(1, 82), ofClass(2, 81)},
		{100, ofClass(2, 60), ofClass(0, 61)}, {100, ofClass(0, 100), ofClass(2, 61)}, {100, ofClass(1, 80), ofClass(0, 81)}, {100, ofClass(0, 100), ofClass(1, 81)},
		// Booked among those whose time has come.
		{100, waits(9, 99, 70), waits(1, 50, 71)}, {100, waits(9, 99, 99), waits(1, 50, 100)}, {100, waits(9, 99, 0), waits(1, 0, 1)},
		// Booked does not count where it has not come.
		{100, waits(9, 98, 300), waits(1, 99, 200)}, {100, waits(9, 98, 300), waits(1, 99, -1)}, {100, waits(9, 98, -1), waits(1, 99, 101)},
		{100, waits(1, 99, 300), waits(2, 99, 200)}, {100, waits(1, 99, 101), waits(2, 99, -1)}, {100, waits(1, 99, -1), waits(2, 99, 101)},
		// Since, with the same Booked.
		{100, waits(9, 98, 70), waits(1, 99, 70)}, {100, waits(9, 98, -1), waits(1, 99, -1)}, {100, waits(9, 0, 0), waits(1, 1, 0)},
		// The first Id.
		{100, waits(1, 99, 70), waits(2, 99, 70)}, {100, waits(8, 99, -1), waits(9, 99, -1)}, {100, waits(9, 99, -1), waits(10, 99, -1)},
		{100, with(99, -1, row(5)), with(99, -1, row(9, 1))}, {100, with(99, -1, row(5, 8)), with(99, -1, row(6), row(1))},
		{100, with(99, -1, row(1, 9)), with(99, -1, row(2, 3, 4))}, {100, with(99, 99, row(5)), with(99, 99, row(9), row(1))},
		// At the limits of times.
		{0, waits(1, 0, 0), waits(2, 0, 0)}, {0, waits(2, 0, 0), waits(1, 0, 1)},
		{impl.MaxTime, waits(2, 0, -1), waits(1, impl.MaxTime, -1)}, {impl.MaxTime, waits(2, impl.MaxTime, impl.MaxTime), waits(1, 0, -1)},
	}
	for _, k := range known {
		if !impl.ComesBefore(k.first, k.second, k.now) || impl.ComesBefore(k.second, k.first, k.now) {
			t.Errorf("%v does not go before %v at %d", k.first, k.second, k.now)
		}
	}
}

func TestNeitherComesBefore(t *testing.T) {
	both := waits(1, 99, 150)
	longer := impl.Call{Train: down(ranked(1, impl.ClassSmall, false).Rows[0], ranked(5, impl.ClassSmall, false).Rows[0]), Since: 99, Booked: -1}
	other := impl.Call{Train: ranked(1, impl.ClassSmall, true), Since: 99, Booked: 170}
	known := []struct {
		now  int
		a, b impl.Call
	}{
		{100, both, both}, {100, both, longer}, {100, both, other}, {100, longer, other}, {160, both, both},
		// One of them does not wait, or does not do so yet.
		{100, waits(1, 101, -1), waits(2, 102, -1)}, {100, waits(1, 99, -1), waits(2, 101, -1)}, {100, waits(1, 99, 0), waits(2, 101, 0)},
		{100, waits(1, 101, 0), waits(2, 50, -1)}, {-1, waits(1, 0, -1), waits(2, 0, -1)}, {impl.MaxTime + 1, waits(1, 0, 0), waits(2, 0, -1)},
		{math.MinInt, waits(1, 0, 0), waits(2, 0, -1)}, {math.MaxInt, waits(1, 0, 0), waits(2, 0, -1)},
	}
	for _, k := range known {
		if impl.ComesBefore(k.a, k.b, k.now) || impl.ComesBefore(k.b, k.a, k.now) {
			t.Errorf("one of %v and %v goes before the other one at %d", k.a, k.b, k.now)
		}
	}
}

// naiveBefore is what the document says for valid calls, word by word.
func naiveBefore(a impl.Call, b impl.Call, now int) bool {
	rankA, rankB := naiveRank(a, now), naiveRank(b, now)
	if rankA == 3 || rankB == 3 {
		return false
	}
	if rankA != rankB {
		return rankA < rankB
	}
	if rankA == -1 && a.Booked != b.Booked {
		return a.Booked < b.Booked
	}
	if a.Since != b.Since {
		return a.Since < b.Since
	}
	return a.Train.Rows[0][0].Id < b.Train.Rows[0][0].Id
}

// manyKinds are calls of which each two differ in something, or in nothing that counts.
func manyKinds() []impl.Call {
	var list []impl.Call
	for class := range 3 {
		for _, since := range []int{60, 80, 81, 100, 101} {
			for _, booked := range []int{-1, 0, 99, 100, 101} {
				for _, id := range []int{1, 2} {
					list = append(list, impl.Call{Train: ranked(id, class, id == class), Since: since, Booked: booked})
				}
			}
		}
	}
	return list
}

func TestComesBeforeOfManyCalls(t *testing.T) {
	for _, now := range []int{59, 60, 79, 80, 99, 100, 101, 120} {
		for _, a := range manyKinds() {
			for _, b := range manyKinds() {
				if before := impl.ComesBefore(a, b, now); before != naiveBefore(a, b, now) {
					t.Errorf("ComesBefore(%v, %v, %d) = %v", a, b, now, before)
				}
			}
		}
	}
}

// TestComesBeforeIsAnOrder looks at any three calls.
func TestComesBeforeIsAnOrder(t *testing.T) {
	rnd := rand.New(rand.NewSource(61))
	kinds := append(manyKinds(), impl.Call{}, waits(1, -1, -1))
	for range 20000 {
		a, b, c := kinds[rnd.Intn(len(kinds))], kinds[rnd.Intn(len(kinds))], kinds[rnd.Intn(len(kinds))]
		now := 55 + rnd.Intn(70)
		before := func(x impl.Call, y impl.Call) bool { return impl.ComesBefore(x, y, now) }
		if before(a, a) || before(a, b) && before(b, a) || before(a, b) && before(b, c) && !before(a, c) {
			t.Fatalf("%v, %v and %v have no order at %d", a, b, c, now)
		}
	}
}

// TestNobodyFallsBehindLaterCalls has calls that have waited for two steps: nobody who came later
// without an appointment, of whatever class, goes before them.
func TestNobodyFallsBehindLaterCalls(t *testing.T) {
	for _, old := range manyKinds() {
		for now := old.Since + 2*impl.AgeStep; now < old.Since+4*impl.AgeStep; now++ {
			later := impl.Call{Train: ranked(1, impl.ClassPassenger, true), Since: old.Since + 1, Booked: -1}
			for ; later.Since <= now; later.Since++ {
				if impl.ComesBefore(later, old, now) || !impl.ComesBefore(old, later, now) {
					t.Errorf("%v goes before %v at %d", later, old, now)
				}
			}
		}
	}
}

func TestNilAndEmptySlicesInCalls(t *testing.T) {
	for _, list := range []rows{nil, {}, {nil}, {{}}} {
		c := impl.Call{Train: impl.Train{Rows: list}, Booked: -1}
		order := impl.OrderCalls([]impl.Call{c}, 0)
		if impl.CallOk(c) || impl.RankOf(c, 0) != 3 || len(order) != 0 {
			t.Errorf("%#v waits: %v", c, order)
		}
	}
	if !slices.Equal(impl.OrderCalls(nil, 0), impl.OrderCalls([]impl.Call{}, 0)) || !impl.PausesOk(nil) || !impl.PausesOk([]impl.Pause{}) {
		t.Error("nil and empty lists differ")
	}
}
