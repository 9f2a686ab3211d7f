package tests

import (
	"math"
	"math/rand"
	"slices"
	"testing"

	"loop.example/g03317/impl"
)

type pauses = []impl.Pause

// between returns pauses from each first number to the second one.
func between(times ...int) pauses {
	var list pauses
	for i := 0; i+1 < len(times); i += 2 {
		list = append(list, impl.Pause{From: times[i], Until: times[i+1]})
	}
	return list
}

// inRow returns pauses of a length, each as long after the one before.
func inRow(count int, length int, after int) pauses {
	var list pauses
	for i := range count {
		from := after + i*(length+after)
		list = append(list, impl.Pause{From: from, Until: from + length})
	}
	return list
}

func validPauses() []pauses {
	list := []pauses{
		nil, {}, between(0, 1), between(5, 9), between(0, 1000000), between(999999, 1000000), between(5, 9, 9, 12), between(5, 9, 10, 12),
		between(0, 1, 1, 2, 2, 3), between(0, 999999, 999999, 1000000), between(0, 1, 999999, 1000000), between(0, 500, 500, 1000000),
		between(3, 4, 4, 5, 6, 7, 8, 20, 20, 21, 30, 31, 31, 1000000),
	}
	for count := range impl.MaxPauses + 1 {
		list = append(list, inRow(count, 1, 0), inRow(count, 3, 2), inRow(count, 100000, 25000), inRow(count, 125000, 0))
	}
	return list
}

func invalidPauses() []pauses {
	least, most := math.MinInt, math.MaxInt
	list := []pauses{
		between(0, 0), between(5, 5), between(5, 4), between(-1, 4), between(-2, -1), between(-1, 0), between(999999, 1000001),
		between(1000000, 1000000), between(1000000, 1000001), between(1000001, 1000002), between(0, 1000001),
		// From is less than the Until before.
		between(5, 9, 8, 12), between(5, 9, 5, 9), between(5, 9, 1, 3), between(5, 9, 0, 5), between(5, 9, 9, 12, 11, 13), between(5, 9, 20, 30, 9, 12),
		between(5, 9, 6, 7), between(5, 9, -1, 30),
		// One that is not valid, wherever it is.
		between(5, 9, 9, 9), between(5, 9, 12, 11), between(5, 9, 12, 1000001), between(4, 4, 5, 9), between(-1, 4, 5, 9), between(5, 9, 10, 10, 11, 12),
		between(5, 4, 6, 7), between(0, 1, 2, 1, 3, 4), between(9, 5, 5, 9),
		// One too many, and very many.
		inRow(impl.MaxPauses+1, 1, 0), inRow(impl.MaxPauses+1, 3, 2), inRow(100000, 1, 0), make(pauses, 100000), make(pauses, 1), make(pauses, 8),
		// Numbers that overflow.
		between(least, 4), between(5, least), between(5, most), between(most, 9), between(least, most), between(most, least), between(least, least),
		between(most, most), between(most-1, most), between(least, least+1), between(5, 9, least, 12), between(5, 9, 10, most), between(5, 9, most, least),
		between(5, 9, most, 12), between(5, 9, 10, least), between(1<<32+5, 1<<32+9), between(5, 1<<32+9),
	}
	return list
}

// briefPauses returns the beginning of what there may be very many of.
func briefPauses(list pauses) pauses {
	return list[:min(len(list), impl.MaxPauses+1)]
}

func TestPausesOk(t *testing.T) {
	for _, list := range validPauses() {
		if !impl.PausesOk(list) {
			t.Errorf("PausesOk(%v) is false", list)
		}
	}
	for _, list := range invalidPauses() {
		if impl.PausesOk(list) {
			t.Errorf("PausesOk(%v) is true", briefPauses(list))
		}
	}
}

func TestIsOpen(t *testing.T) {
	known := []struct {
		list pauses
		t    int
		open bool
	}{
		{nil, 0, true}, {nil, 500, true}, {nil, 1000000, true}, {nil, -1, false}, {nil, 1000001, false}, {nil, math.MinInt, false}, {nil, math.MaxInt, false},
		{between(5, 9), 0, true}, {between(5, 9), 4, true}, {between(5, 9), 5, false}, {between(5, 9), 6, false}, {between(5, 9), 8, false},
		{between(5, 9), 9, true}, {between(5, 9), 10, true}, {between(5, 9), 1000000, true}, {between(5, 9), 1000001, false}, {between(5, 9), -1, false},
		{between(5, 9, 9, 12), 8, false}, {between(5, 9, 9, 12), 9, false}, {between(5, 9, 9, 12), 11, false}, {between(5, 9, 9, 12), 12, true},
		{between(5, 9, 10, 12), 9, true}, {between(5, 9, 10, 12), 10, false}, {between(5, 9, 10, 12), 4, true}, {between(5, 9, 10, 12), 12, true},
		{between(0, 1), 0, false}, {between(0, 1), 1, true}, {between(0, 1), -1, false}, {between(0, 1000000), 0, false}, {between(0, 1000000), 999999, false},
		{between(0, 1000000), 1000000, true}, {between(999999, 1000000), 999998, true}, {between(999999, 1000000), 1000000, true},
	}
	for _, k := range known {
		if open := impl.IsOpen(k.list, k.t); open != k.open {
			t.Errorf("IsOpen(%v, %d) is %v", k.list, k.t, open)
		}
	}
}

func TestNextOpen(t *testing.T) {
	known := []struct {
		list    pauses
		t, want int
	}{
		{nil, 0, 0}, {nil, 500, 500}, {nil, 1000000, 1000000}, {nil, 1000001, -1}, {nil, -1, -1}, {nil, math.MinInt, -1}, {nil, math.MaxInt, -1},
		{between(5, 9), 0, 0}, {between(5, 9), 4, 4}, {between(5, 9), 5, 9}, {between(5, 9), 6, 9}, {between(5, 9), 8, 9}, {between(5, 9), 9, 9},
		{between(5, 9), 10, 10}, {between(5, 9), 1000000, 1000000}, {between(5, 9), 1000001, -1}, {between(5, 9), -1, -1}, {between(5, 9), math.MinInt, -1},
		// The end of a pause may be the beginning of the next one.
		{between(5, 9, 9, 12), 4, 4}, {between(5, 9, 9, 12), 5, 12}, {between(5, 9, 9, 12), 8, 12}, {between(5, 9, 9, 12), 9, 12}, {between(5, 9, 9, 12), 12, 12},
		{between(5, 9, 10, 12), 5, 9}, {between(5, 9, 10, 12), 9, 9}, {between(5, 9, 10, 12), 10, 12}, {between(5, 9, 9, 12, 13, 20), 6, 12},
		{between(5, 9, 9, 12, 12, 20), 6, 20}, {between(5, 9, 10, 12, 12, 20), 6, 9}, {between(5, 9, 10, 12, 12, 20), 11, 20}, {between(0, 1, 1, 2, 2, 3), 0, 3},
		{inRow(8, 1, 0), 0, 8}, {inRow(8, 1, 0), 7, 8}, {inRow(8, 1, 0), 8, 8}, {inRow(8, 3, 2), 3, 5}, {inRow(8, 3, 2), 38, 40}, {inRow(8, 3, 2), 39, 40}, {inRow(8, 3, 2), 40, 40},
		// A pause lasts at most until MaxTime, which is never in one.
		{between(0, 1000000), 0, 1000000}, {between(0, 1000000), 999999, 1000000}, {between(0, 1000000), 1000000, 1000000}, {between(0, 1000000), 1000001, -1},
		{between(999999, 1000000), 999999, 1000000}, {between(0, 999999, 999999, 1000000), 0, 1000000}, {inRow(8, 125000, 0), 1, 1000000},
		{between(0, 1000000), -1, -1}, {between(0, 1000000), math.MinInt, -1}, {between(0, 1000000), math.MaxInt, -1},
	}
	for _, k := range known {
		if next := impl.NextOpen(k.list, k.t); next != k.want {
			t.Errorf("NextOpen(%v, %d) = %d, not %d", k.list, k.t, next, k.want)
		}
	}
}

func TestInvalidPausesAreNeverOver(t *testing.T) {
	for _, list := range invalidPauses() {
		for _, now := range append(someTimes(), 4, 5, 8, 9, 12) {
			if impl.IsOpen(list, now) || impl.NextOpen(list, now) != -1 {
				t.Errorf("%v are over at %d: %d", briefPauses(list), now, impl.NextOpen(list, now))
			}
		}
	}
}

// naiveOpen looks for a time in each pause.
func naiveOpen(list pauses, now int) bool {
	for _, p := range list {
		for t := p.From; t < p.Until; t++ {
			if t == now {
				return false
			}
		}
	}
	return now >= 0
}

func TestManyPauses(t *testing.T) {
	rnd := rand.New(rand.NewSource(67))
	for range 3000 {
		var times []int
		last := rnd.Intn(3)
		for range 2 * rnd.Intn(impl.MaxPauses+1) {
			times = append(times, last)
			last += rnd.Intn(4)
		}
		list := between(times...)
		ok := !slices.ContainsFunc(list, func(p impl.Pause) bool { return p.From == p.Until })
		if impl.PausesOk(list) != ok {
			t.Fatalf("PausesOk(%v) is %v", list, !ok)
		}
		for now := -2; ok && now < last+3; now++ {
			checkPauses(t, list, now)
		}
	}
}

func checkPauses(t *testing.T, list pauses, now int) {
	if impl.IsOpen(list, now) != naiveOpen(list, now) {
		t.Fatalf("IsOpen(%v, %d) is %v", list, now, !naiveOpen(list, now))
	}
	want := now
	for want >= 0 && !naiveOpen(list, want) {
		want++
	}
	if want < 0 {
		want = -1
	}
	if next := impl.NextOpen(list, now); next != want {
		t.Fatalf("NextOpen(%v, %d) = %d, not %d", list, now, next, want)
	}
}
