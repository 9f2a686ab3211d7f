package tests

import (
	"math"
	"testing"

	"loop.example/g03317/impl"
)

// stretches returns the same stretch in both directions.
func stretches(inside int, run int, limit int) []impl.Stretch {
	return []impl.Stretch{{Up: true, Inside: inside, Run: run, Limit: limit}, {Up: false, Inside: inside, Run: run, Limit: limit}}
}

func validStretches() []impl.Stretch {
	var list []impl.Stretch
	for _, run := range []int{0, 1, 2, 3, 4, 5, 99, 100, 101, 999998, 999999, 1000000} {
		for _, inside := range []int{0, 1, run - 1, run} {
			for _, limit := range []int{1, 2, 3, 4, 99, 100} {
				if inside >= 0 && inside <= run {
					list = append(list, stretches(inside, run, limit)...)
				}
			}
		}
	}
	return list
}

func invalidStretches() []impl.Stretch {
	var list []impl.Stretch
	for _, n := range farTimes() {
		list = append(list, stretches(n, 1, 5)...)
		list = append(list, stretches(0, n, 5)...)
		list = append(list, stretches(1, n, 5)...)
		list = append(list, stretches(n, n, 5)...)
		list = append(list, stretches(0, 0, n)...)
		list = append(list, stretches(1, 2, n)...)
	}
	for _, bad := range [][3]int{
		{0, 0, 0}, {0, 0, -1}, {0, 0, 101}, {2, 3, 0}, {2, 3, 101}, {1, 0, 5}, {3, 2, 5}, {-1, 0, 5}, {-1, -1, 5}, {0, -1, 5}, {-1, 3, 5},
		{1000000, 999999, 5}, {1000001, 1000001, 5}, {1000000, 1000001, 5}, {math.MinInt, math.MaxInt, 5}, {math.MaxInt, math.MinInt, 5},
	} {
		list = append(list, stretches(bad[0], bad[1], bad[2])...)
	}
	return append(list, impl.Stretch{})
}

func TestStretchOk(t *testing.T) {
	for _, s := range validStretches() {
		if !impl.StretchOk(s) {
			t.Errorf("StretchOk(%+v) is false", s)
		}
	}
	for _, s := range invalidStretches() {
		if impl.StretchOk(s) {
			t.Errorf("StretchOk(%+v) is true", s)
		}
	}
}

func TestMayPass(t *testing.T) {
	known := []struct {
		inside, run, limit int
		// Whether one may enter in the direction Up, without others and with them, and in the other one.
		alone, others, back bool
	}{
		{0, 0, 1, true, true, true},
		{0, 1, 1, true, false, true},
		{1, 1, 1, true, false, false},
		{0, 2, 3, true, true, true},
		{1, 2, 3, true, true, false},
		{2, 2, 3, true, true, false},
		{0, 3, 3, true, false, true},
		{1, 3, 3, true, false, false},
		{3, 3, 3, true, false, false},
		{0, 4, 3, true, false, true},
		{4, 4, 3, true, false, false},
		{99, 99, 100, true, true, false},
		{0, 99, 100, true, true, true},
		{100, 100, 100, true, false, false},
		{0, 100, 100, true, false, true},
		{0, 1000000, 100, true, false, true},
		{1, 1000000, 100, true, false, false},
		{1000000, 1000000, 1, true, false, false},
	}
	for _, k := range known {
		for _, s := range stretches(k.inside, k.run, k.limit) {
			alone, others := impl.MayPass(s, s.Up, false), impl.MayPass(s, s.Up, true)
			if alone != k.alone || others != k.others {
				t.Errorf("MayPass(%+v, %v) is %v, and %v with others", s, s.Up, alone, others)
			}
			if impl.MayPass(s, !s.Up, false) != k.back || impl.MayPass(s, !s.Up, true) != k.back {
				t.Errorf("MayPass(%+v, %v) is not %v", s, !s.Up, k.back)
			}
		}
	}
}

func TestEnterStretch(t *testing.T) {
	known := []struct {
		s    impl.Stretch
		up   bool
		want impl.Stretch
	}{
		{impl.Stretch{Up: true, Inside: 0, Run: 0, Limit: 3}, true, impl.Stretch{Up: true, Inside: 1, Run: 1, Limit: 3}},
		{impl.Stretch{Up: true, Inside: 0, Run: 0, Limit: 3}, false, impl.Stretch{Up: false, Inside: 1, Run: 1, Limit: 3}},
		{impl.Stretch{Up: false, Inside: 0, Run: 0, Limit: 3}, true, impl.Stretch{Up: true, Inside: 1, Run: 1, Limit: 3}},
		{impl.Stretch{Up: true, Inside: 1, Run: 2, Limit: 3}, true, impl.Stretch{Up: true, Inside: 2, Run: 3, Limit: 3}},
		{impl.Stretch{Up: false, Inside: 1, Run: 2, Limit: 3}, false, impl.Stretch{Up: false, Inside: 2, Run: 3, Limit: 3}},
		// Whether others wait is not asked here.
		{impl.Stretch{Up: true, Inside: 1, Run: 3, Limit: 3}, true, impl.Stretch{Up: true, Inside: 2, Run: 4, Limit: 3}},
		{impl.Stretch{Up: true, Inside: 0, Run: 3, Limit: 3}, true, impl.Stretch{Up: true, Inside: 1, Run: 4, Limit: 3}},
		{impl.Stretch{Up: true, Inside: 0, Run: 7, Limit: 3}, false, impl.Stretch{Up: false, Inside: 1, Run: 1, Limit: 3}},
		{impl.Stretch{Up: false, Inside: 0, Run: 7, Limit: 3}, true, impl.Stretch{Up: true, Inside: 1, Run: 1, Limit: 3}},
		// Somebody comes from the other end.
		{impl.Stretch{Up: true, Inside: 1, Run: 2, Limit: 3}, false, impl.Stretch{Up: true, Inside: 1, Run: 2, Limit: 3}},
		{impl.Stretch{Up: false, Inside: 2, Run: 2, Limit: 3}, true, impl.Stretch{Up: false, Inside: 2, Run: 2, Limit: 3}},
		// Run is at most MaxTime.
		{impl.Stretch{Up: true, Inside: 4, Run: 999999, Limit: 3}, true, impl.Stretch{Up: true, Inside: 5, Run: 1000000, Limit: 3}},
		{impl.Stretch{Up: true, Inside: 4, Run: 1000000, Limit: 3}, true, impl.Stretch{Up: true, Inside: 4, Run: 1000000, Limit: 3}},
		{impl.Stretch{Up: false, Inside: 0, Run: 1000000, Limit: 3}, false, impl.Stretch{Up: false, Inside: 0, Run: 1000000, Limit: 3}},
		{impl.Stretch{Up: true, Inside: 0, Run: 1000000, Limit: 3}, false, impl.Stretch{Up: false, Inside: 1, Run: 1, Limit: 3}},
		{impl.Stretch{Up: true, Inside: 1000000, Run: 1000000, Limit: 100}, true, impl.Stretch{Up: true, Inside: 1000000, Run: 1000000, Limit: 100}},
	}
	for _, k := range known {
		if entered := impl.EnterStretch(k.s, k.up); entered != k.want {
			t.Errorf("EnterStretch(%+v, %v) = %+v", k.s, k.up, entered)
		}
	}
}

func TestLeaveStretch(t *testing.T) {
	for _, k := range []struct{ before, after, run int }{{0, 0, 0}, {0, 0, 4}, {1, 0, 1}, {1, 0, 4}, {4, 3, 4}, {999999, 999998, 1000000}, {1000000, 999999, 1000000}} {
		for i, s := range stretches(k.before, k.run, 3) {
			if left := impl.LeaveStretch(s); left != stretches(k.after, k.run, 3)[i] {
				t.Errorf("LeaveStretch(%+v) = %+v", s, left)
			}
		}
	}
}

// TestManyStretches asks all of them for the same in other words.
func TestManyStretches(t *testing.T) {
	for _, s := range validStretches() {
		for _, direction := range []bool{true, false} {
			entered := impl.EnterStretch(s, direction)
			may := impl.MayPass(s, direction, false) && (s.Run < impl.MaxTime || direction != s.Up)
			if (entered == s) == may || !impl.StretchOk(entered) || !impl.StretchOk(impl.LeaveStretch(s)) {
				t.Errorf("EnterStretch(%+v, %v) = %+v", s, direction, entered)
			}
			if left := impl.LeaveStretch(entered); may && (left.Inside != s.Inside || left.Up != direction) {
				t.Errorf("%+v has become %+v", s, left)
			}
			if impl.MayPass(s, direction, true) && !impl.MayPass(s, direction, false) {
				t.Errorf("one may enter %+v just if another one waits", s)
			}
		}
	}
}

func TestInvalidStretchesDoNothing(t *testing.T) {
	for _, s := range invalidStretches() {
		for _, direction := range []bool{true, false} {
			if impl.MayPass(s, direction, true) || impl.MayPass(s, direction, false) || impl.EnterStretch(s, direction) != s {
				t.Errorf("%+v is entered: %+v", s, impl.EnterStretch(s, direction))
			}
		}
		if left := impl.LeaveStretch(s); left != s {
			t.Errorf("LeaveStretch(%+v) = %+v", s, left)
		}
	}
}
