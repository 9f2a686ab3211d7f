package tests

import (
	"math"
	"math/rand"
	"slices"
	"testing"

	"loop.example/g03317/impl"
)

// naiveOrder takes, one after the other, the first call that is left and that none goes before.
func naiveOrder(list []impl.Call, now int) []int {
	var left, order []int
	for i, c := range list {
		if impl.CallOk(c) && naiveRank(c, now) != 3 {
			left = append(left, i)
		}
	}
	for len(left) > 0 {
		next := slices.IndexFunc(left, func(i int) bool {
			return !slices.ContainsFunc(left, func(j int) bool { return naiveBefore(list[j], list[i], now) })
		})
		order = append(order, left[next])
		left = slices.Delete(left, next, next+1)
	}
	return order
}

func TestOrderCalls(t *testing.T) {
	a, b, c, d := ofClass(2, 90), ofClass(1, 95), ofClass(0, 99), waits(9, 100, 100)
	known := []struct {
		list []impl.Call
		now  int
		want []int
	}{
		{nil, 100, nil},
		{[]impl.Call{a}, 100, []int{0}},
		{[]impl.Call{a, b, c, d}, 100, []int{3, 2, 1, 0}},
		{[]impl.Call{d, c, b, a}, 100, []int{0, 1, 2, 3}},
		{[]impl.Call{b, d, a, c}, 100, []int{1, 3, 0, 2}},
		// Calls that do not wait at the time are left out, and all keep their indices.
		{[]impl.Call{a, b, c, d}, 99, []int{2, 1, 0}},
		{[]impl.Call{a, b, c, d}, 94, []int{0}},
		{[]impl.Call{d, c, b, a}, 95, []int{2, 3}},
		{[]impl.Call{a, b, c, d}, 89, nil},
		{[]impl.Call{{}, a, waits(1, -1, -1), c, waits(1, 0, -2)}, 100, []int{3, 1}},
		{[]impl.Call{{}, {}}, 100, nil},
		{[]impl.Call{a, b, c, d}, impl.MaxTime + 1, nil},
		{[]impl.Call{a, b, c, d}, -1, nil},
		{[]impl.Call{a, b, c, d}, math.MinInt, nil},
		{[]impl.Call{a, b, c, d}, math.MaxInt, nil},
		// The order changes with the time.
		{[]impl.Call{c, b, a}, 109, []int{0, 1, 2}},
		{[]impl.Call{c, b, a}, 110, []int{0, 2, 1}},
		{[]impl.Call{c, b, a}, 115, []int{1, 0, 2}},
		{[]impl.Call{c, b, a}, 130, []int{2, 1, 0}},
		{[]impl.Call{c, b, a, d}, impl.MaxTime, []int{3, 2, 1, 0}},
	}
	for _, k := range known {
		if order := impl.OrderCalls(k.list, k.now); !slices.Equal(order, k.want) {
			t.Errorf("OrderCalls(%v, %d) = %v, not %v", k.list, k.now, order, k.want)
		}
	}
}

// TestEqualCallsStayInOrder has calls of which none goes before the other one, in any number.
func TestEqualCallsStayInOrder(t *testing.T) {
	same := []impl.Call{waits(7, 90, -1), waits(7, 90, 200), {Train: ranked(7, impl.ClassSmall, true), Since: 90, Booked: 300}}
	for count := range 80 {
		var list []impl.Call
		var want []int
		for i := range count {
			list, want = append(list, same[i%3]), append(want, i)
		}
		if order := impl.OrderCalls(list, 100); !slices.Equal(order, want) {
			t.Errorf("OrderCalls of %d equal calls = %v", count, order)
		}
	}
}

// TestGroupsOfEqualCalls has a few kinds of calls, each of them many times.
func TestGroupsOfEqualCalls(t *testing.T) {
	kinds := []impl.Call{waits(1, 90, 95), waits(2, 90, 96), ofClass(0, 90), ofClass(1, 91), ofClass(1, 92), waits(1, 93, -1), waits(2, 93, 200)}
	rnd := rand.New(rand.NewSource(62))
	for count := range 300 {
		groups := make([][]int, len(kinds))
		var list []impl.Call
		for i := range count {
			k := rnd.Intn(len(kinds))
			list = append(list, kinds[k])
			groups[k] = append(groups[k], i)
		}
		if order := impl.OrderCalls(list, 100); !slices.Equal(order, slices.Concat(groups...)) {
			t.Fatalf("OrderCalls of %d calls = %v, not %v", count, order, groups)
		}
	}
}

// TestEveryOrderOfArrival has the same calls in all orders.
func TestEveryOrderOfArrival(t *testing.T) {
	sorted := []impl.Call{waits(1, 90, 95), waits(2, 90, 95), waits(1, 91, 96), ofClass(0, 99), ofClass(1, 90), ofClass(1, 91), waits(1, 90, 101)}
	var arrive func(order []int)
	arrive = func(order []int) {
		if len(order) < len(sorted) {
			for i := range sorted {
				if !slices.Contains(order, i) {
					arrive(append(slices.Clip(order), i))
				}
			}
			return
		}
		list, want := make([]impl.Call, len(order)), make([]int, len(order))
		for place, i := range order {
			list[place], want[i] = sorted[i], place
		}
		if got := impl.OrderCalls(list, 100); !slices.Equal(got, want) {
			t.Errorf("OrderCalls(%v, 100) = %v, not %v", list, got, want)
		}
	}
	arrive(nil)
}

func TestOrderOfManyCalls(t *testing.T) {
	rnd := rand.New(rand.NewSource(63))
	kinds := append(manyKinds(), impl.Call{}, waits(1, -1, -1), waits(1, 90, -2), waits(1, 90, impl.MaxTime+1))
	for range 1500 {
		var list []impl.Call
		for range rnd.Intn(60) {
			list = append(list, kinds[rnd.Intn(len(kinds))])
		}
		now := 55 + rnd.Intn(70)
		if order := impl.OrderCalls(list, now); !slices.Equal(order, naiveOrder(list, now)) {
			t.Fatalf("OrderCalls(%v, %d) = %v, not %v", list, now, order, naiveOrder(list, now))
		}
	}
}

// TestOrderOfVeryManyCalls has more calls than any lock can have.
func TestOrderOfVeryManyCalls(t *testing.T) {
	const count = 100000
	rnd := rand.New(rand.NewSource(64))
	kinds := manyKinds()
	same, mixed, reverse, invalid := make([]impl.Call, count), make([]impl.Call, count), make([]impl.Call, count), make([]impl.Call, count)
	var inOrder, backwards []int
	for i := range count {
		same[i], mixed[i], reverse[i] = kinds[0], kinds[rnd.Intn(len(kinds))], waits(1, count-i, -1)
		inOrder, backwards = append(inOrder, i), append(backwards, count-1-i)
	}
	if order := impl.OrderCalls(same, 100); !slices.Equal(order, inOrder) {
		t.Errorf("equal calls do not stay in order: %v ...", order[:10])
	}
	if order := impl.OrderCalls(reverse, impl.MaxTime); !slices.Equal(order, backwards) {
		t.Errorf("the last call is not the first one: %v ...", order[:10])
	}
	if order := impl.OrderCalls(invalid, 100); len(order) != 0 {
		t.Errorf("invalid calls wait: %v ...", order[:10])
	}
	want := slices.Clone(inOrder)
	slices.SortStableFunc(want, func(i int, j int) int {
		switch {
		case naiveBefore(mixed[i], mixed[j], 110):
			return -1
		case naiveBefore(mixed[j], mixed[i], 110):
			return 1
		}
		return 0
	})
	if order := impl.OrderCalls(mixed, 110); !slices.Equal(order, want) {
		t.Errorf("OrderCalls of %d calls has %d of them", count, len(order))
	}
}

// validTurns have all directions and the limits of Count.
func validTurns() []impl.Turn {
	var list []impl.Turn
	for _, count := range []int{0, 1, 2, 3, 4, 999999, 1000000} {
		list = append(list, impl.Turn{Up: true, Count: count}, impl.Turn{Up: false, Count: count})
	}
	return list
}

func invalidTurns() []impl.Turn {
	var list []impl.Turn
	for _, count := range append(farTimes(), -1) {
		list = append(list, impl.Turn{Up: true, Count: count}, impl.Turn{Up: false, Count: count})
	}
	return list
}

func TestTurnOk(t *testing.T) {
	for _, turn := range validTurns() {
		if !impl.TurnOk(turn) {
			t.Errorf("TurnOk(%v) is false", turn)
		}
	}
	for _, turn := range invalidTurns() {
		if impl.TurnOk(turn) {
			t.Errorf("TurnOk(%v) is true", turn)
		}
	}
}

func TestNoteTurn(t *testing.T) {
	for _, k := range []struct{ before, same int }{{0, 1}, {1, 2}, {2, 3}, {3, 4}, {999998, 999999}, {999999, 1000000}, {1000000, 1000000}} {
		for _, bound := range []bool{true, false} {
			turn := impl.Turn{Up: bound, Count: k.before}
			if noted := impl.NoteTurn(turn, bound); noted != (impl.Turn{Up: bound, Count: k.same}) {
				t.Errorf("NoteTurn(%v, %v) = %v", turn, bound, noted)
			}
			if noted := impl.NoteTurn(turn, !bound); noted != (impl.Turn{Up: !bound, Count: 1}) {
				t.Errorf("NoteTurn(%v, %v) = %v", turn, !bound, noted)
			}
		}
	}
	for _, turn := range invalidTurns() {
		if impl.NoteTurn(turn, true) != turn || impl.NoteTurn(turn, false) != turn {
			t.Errorf("NoteTurn(%v) is %v or %v", turn, impl.NoteTurn(turn, true), impl.NoteTurn(turn, false))
		}
	}
}

// bound returns the same call in a direction.
func bound(c impl.Call, direction bool) impl.Call {
	c.Train.Up = direction
	return c
}

func TestNextSide(t *testing.T) {
	early, late := waits(1, 90, -1), waits(2, 99, -1)
	for _, first := range []bool{true, false} {
		ahead, behind := bound(early, first), bound(late, first)
		other, otherLate := bound(waits(3, 95, -1), !first), bound(waits(3, 101, -1), !first)
		known := []struct {
			list []impl.Call
			turn impl.Turn
			side bool
		}{
			{[]impl.Call{ahead}, impl.Turn{Up: first, Count: 0}, first},
			{[]impl.Call{ahead, other}, impl.Turn{Up: first, Count: 2}, first},
			{[]impl.Call{ahead, other}, impl.Turn{Up: first, Count: 3}, !first},
			{[]impl.Call{ahead, other}, impl.Turn{Up: first, Count: 4}, !first},
			{[]impl.Call{ahead, other}, impl.Turn{Up: first, Count: impl.MaxTime}, !first},
			// Wherever the other one is.
			{[]impl.Call{other, ahead}, impl.Turn{Up: first, Count: 2}, first},
			{[]impl.Call{other, ahead}, impl.Turn{Up: first, Count: 3}, !first},
			{[]impl.Call{behind, other, ahead}, impl.Turn{Up: first, Count: 3}, !first},
			{[]impl.Call{ahead, ahead, ahead, behind, behind, other}, impl.Turn{Up: first, Count: 3}, !first},
			// The turn was in the other direction.
			{[]impl.Call{ahead, other}, impl.Turn{Up: !first, Count: 0}, first},
			{[]impl.Call{ahead, other}, impl.Turn{Up: !first, Count: 3}, first},
			{[]impl.Call{ahead}, impl.Turn{Up: !first, Count: impl.MaxTime}, first},
			// Nobody waits in the other direction.
			{[]impl.Call{ahead}, impl.Turn{Up: first, Count: 3}, first},
			{[]impl.Call{ahead, behind}, impl.Turn{Up: first, Count: impl.MaxTime}, first},
			{[]impl.Call{ahead, otherLate}, impl.Turn{Up: first, Count: 3}, first},
			{[]impl.Call{otherLate, {Train: impl.Train{Up: !first}}, ahead}, impl.Turn{Up: first, Count: 3}, first},
			{[]impl.Call{bound(waits(3, -1, -1), !first), ahead}, impl.Turn{Up: first, Count: 3}, first},
		}
		for _, k := range known {
			if side, ok := impl.NextSide(k.list, k.turn, 100); side != k.side || !ok {
				t.Errorf("NextSide(%v, %v, 100) = %v, %v", k.list, k.turn, side, ok)
			}
		}
	}
}

func TestNextSideOfNobody(t *testing.T) {
	all := []impl.Call{bound(waits(1, 90, -1), true), bound(waits(2, 90, -1), false)}
	reject := func(list []impl.Call, turn impl.Turn, now int) {
		if side, ok := impl.NextSide(list, turn, now); side || ok {
			t.Errorf("NextSide(%v, %v, %d) = %v, %v", list, turn, now, side, ok)
		}
	}
	for _, turn := range validTurns() {
		reject(nil, turn, 100)
		reject([]impl.Call{}, turn, 100)
		reject([]impl.Call{{}, {Train: impl.Train{Up: true}}, bound(waits(1, -1, -1), true)}, turn, 100)
		for _, now := range append(farTimes(), -1, 0, 89) {
			reject(all, turn, now)
		}
	}
	for _, turn := range invalidTurns() {
		reject(nil, turn, 100)
		reject(all, turn, 100)
		reject(all[:1], turn, 100)
		reject(all[1:], turn, 100)
	}
}

// naiveSide looks for whoever goes before all others, on each side.
func naiveSide(list []impl.Call, turn impl.Turn, now int) (bool, bool) {
	order := naiveOrder(list, now)
	if len(order) == 0 {
		return false, false
	}
	waiting := map[bool]bool{}
	for _, i := range order {
		waiting[list[i].Train.Up] = true
	}
	side := list[order[0]].Train.Up
	if side == turn.Up && turn.Count >= 3 && waiting[!side] {
		side = !side
	}
	return side, true
}

func TestNextSideOfManyCalls(t *testing.T) {
	rnd := rand.New(rand.NewSource(65))
	kinds := append(manyKinds(), impl.Call{}, waits(1, -1, -1))
	for range 5000 {
		var list []impl.Call
		for range rnd.Intn(6) {
			list = append(list, kinds[rnd.Intn(len(kinds))])
		}
		now, turn := 55+rnd.Intn(70), impl.Turn{Up: rnd.Intn(2) == 0, Count: rnd.Intn(6)}
		side, ok := impl.NextSide(list, turn, now)
		if want, is := naiveSide(list, turn, now); side != want || ok != is {
			t.Fatalf("NextSide(%v, %v, %d) = %v, %v", list, turn, now, side, ok)
		}
	}
}
