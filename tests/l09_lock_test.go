package tests

import (
	"math"
	"math/rand"
	"slices"
	"testing"

	"loop.example/g03317/impl"
)

// numbersOfNoWork are not the number of one of two works; the last two are 0 and 1, if they are taken modulo 2^32.
func numbersOfNoWork() []int {
	return []int{math.MinInt, math.MinInt + 1, -2, -1, 2, 3, 6, math.MaxInt, 1 << 32, 1<<32 + 1}
}

// atLock returns a plain waterway whose first work has this gate, these calls and these trains inside. The levels
// of its reaches are 75 and 50, and the sills 60 and 38, so that draughts up to 15 and 12 can pass; that of the
// chamber is 51.
func atLock(gate int, list []impl.Call, inside ...impl.Train) impl.Waterway {
	return plainWith(func(x *impl.Waterway) {
		w := &x.Works[0]
		w.Calls, w.Lock.Inside, w.Lock.Gate = list, inside, gate
	})
}

func calling(train impl.Train) impl.Call {
	return impl.Call{Train: train, Since: 5, Booked: -1}
}

// callOf returns the call of trains of a plain boat each.
func callsOf(list ...impl.Train) []impl.Call {
	var calls []impl.Call
	for _, train := range list {
		calls = append(calls, calling(train))
	}
	return calls
}

func TestAbleCalls(t *testing.T) {
	long := sized(61, 5, 1)
	fitting := sized(60, 12, 2)
	broad := sized(20, 13, 3)
	list := []impl.Call{
		calling(long), calling(fitting), calling(broad),
		calling(deep(4, 15, false)), calling(deep(5, 16, false)), calling(deep(6, 12, true)), calling(deep(7, 13, true)),
		// Neither the time nor the appointment counts, nor that there is no room for all.
		{Train: down(row(8)), Since: impl.MaxTime, Booked: 3}, {Train: up(row(9)), Since: 0, Booked: impl.MaxTime},
		calling(up(row(10), row(11))), calling(up(row(12), row(13), row(14))), calling(down(row(15, 16))), calling(down(row(17, 18, 19))),
		calling(up(row(9))),
	}
	want := []impl.Call{list[1], list[3], list[5], list[7], list[8], list[9], list[11], list[13]}
	for gate := range 3 {
		for _, inside := range [][]impl.Train{nil, {up(row(30))}, {down(row(31)), up(row(8))}} {
			if got := impl.AbleCalls(atLock(gate, list, inside...), 0); !alike(got, want) {
				t.Errorf("AbleCalls = %v, not %v", idsOfCalls(got), idsOfCalls(want))
			}
		}
	}
	if got := impl.AbleCalls(plainWaterway(), 1); !slices.Equal(idsOfCalls(got), []int{9, 10}) {
		t.Errorf("AbleCalls of the other work = %v", idsOfCalls(got))
	}
	if got := impl.AbleCalls(atLock(0, nil), 0); len(got) != 0 {
		t.Errorf("AbleCalls of no calls = %v", got)
	}
}

func TestAbleCallsRejects(t *testing.T) {
	for _, k := range numbersOfNoWork() {
		if got := impl.AbleCalls(plainWaterway(), k); len(got) != 0 {
			t.Errorf("AbleCalls of work %d = %v", k, got)
		}
	}
	for _, x := range invalidWaterways() {
		for k := -1; k < 3; k++ {
			if got := impl.AbleCalls(x, k); len(got) != 0 {
				t.Errorf("AbleCalls(%s, %d) = %v", briefly(x), k, got)
			}
		}
	}
}

// checkWork compares what the first work does with a change.
func checkWork(t *testing.T, name string, x impl.Waterway, change func(x *impl.Waterway)) {
	t.Helper()
	want := with(x, change)
	if got := impl.WorkLock(x, 0); !alike(got, want) {
		t.Errorf("%s: WorkLock: %s", name, differing(got, want))
	}
}

func unchanged(*impl.Waterway) {}

func TestTrainsLeaveLocks(t *testing.T) {
	a, b, c := up(row(21), row(22)), down(row(23)), up(row(24))
	checkWork(t, "upstream", atLock(impl.GateAbove, nil, a, b, c), func(x *impl.Waterway) {
		x.Works[0].Lock.Inside = []impl.Train{b, c}
		x.Movers[0] = append(x.Movers[0], goes(a, 40))
	})
	checkWork(t, "downstream", atLock(impl.GateBelow, nil, a, b, c), func(x *impl.Waterway) {
		x.Works[0].Lock.Inside = []impl.Train{a, c}
		x.Movers[1] = append(x.Movers[1], goes(b, 0))
	})
	// Somebody leaves also where others could enter, in a pause, and where another side is next.
	checkWork(t, "before others enter", atLock(impl.GateAbove, callsOf(down(row(31)), up(row(32))), c), func(x *impl.Waterway) {
		x.Works[0].Lock.Inside = nil
		x.Movers[0] = append(x.Movers[0], goes(c, 40))
	})
	inPause := with(atLock(impl.GateBelow, nil, b), func(x *impl.Waterway) { x.Time = 105 })
	checkWork(t, "in a pause", inPause, func(x *impl.Waterway) {
		x.Works[0].Lock.Inside = nil
		x.Movers[1] = append(x.Movers[1], goes(b, 0))
	})
	// The second work has the ends of other reaches.
	x := plainWith(func(x *impl.Waterway) { x.Works[1].Lock.Gate = impl.GateAbove })
	want := with(x, func(x *impl.Waterway) {
		x.Movers[1] = append(x.Movers[1], goes(up(row(11)), 30))
		x.Works[1].Lock.Inside = nil
	})
	if got := impl.WorkLock(x, 1); !alike(got, want) {
		t.Errorf("WorkLock(1): %s", differing(got, want))
	}
}

// TestDepthWhereTrainsLeave has the sill above at 60 and the one below at 38.
func TestDepthWhereTrainsLeave(t *testing.T) {
	for _, k := range []struct {
		gate, draught int
		direction     bool
		leaves        bool
	}{
		{impl.GateAbove, 15, true, true}, {impl.GateAbove, 16, true, false}, {impl.GateBelow, 12, false, true}, {impl.GateBelow, 13, false, false},
		{impl.GateAbove, 1, false, false}, {impl.GateBelow, 1, true, false},
	} {
		x := atLock(k.gate, nil, deep(30, k.draught, k.direction))
		got := impl.WorkLock(x, 0)
		if left := len(got.Works[0].Lock.Inside) == 0; left != k.leaves {
			t.Errorf("by the gate %d the draught %d leaves: %v", k.gate, k.draught, left)
		}
		// Who cannot leave has the gate shut.
		if (got.Works[0].Lock.Gate == impl.GateShut) == k.leaves {
			t.Errorf("then the gate %d is %d", k.gate, got.Works[0].Lock.Gate)
		}
	}
}

// TestNoRoomToLeave has 24 movers on the reach, so that nothing at all happens, although the gate could be shut.
func TestNoRoomToLeave(t *testing.T) {
	for _, count := range []int{22, 23, 24} {
		x := atLock(impl.GateAbove, nil, up(row(30)))
		x.Movers[0] = slices.Repeat(x.Movers[0][:1], count)
		got := impl.WorkLock(x, 0)
		if count == 24 && !alike(got, x) {
			t.Errorf("a 25th mover: %s", differing(got, x))
		}
		if count < 24 && (len(got.Movers[0]) != count+1 || !impl.WaterwayOk(got)) {
			t.Errorf("a mover more: %s", differing(got, x))
		}
	}
}

func TestTrainsEnterLocks(t *testing.T) {
	a, b, c := up(row(21), row(22)), down(row(23)), up(row(24))
	checkWork(t, "upstream", atLock(impl.GateBelow, callsOf(b, a, c)), func(x *impl.Waterway) {
		w := &x.Works[0]
		w.Calls, w.Lock.Gate, w.Turn = callsOf(b), impl.GateShut, impl.Turn{Up: true, Count: 3}
		w.Lock.Inside = []impl.Train{a, c}
		x.Passings = append(x.Passings, impl.Passing{Time: 10, Work: 0, Train: a}, impl.Passing{Time: 10, Work: 0, Train: c})
		x.Book = slices.Concat(x.Book, naiveEntries(x.Tariff, a, 10), naiveEntries(x.Tariff, c, 10))
	})
	checkWork(t, "downstream", atLock(impl.GateAbove, callsOf(b, a, c)), func(x *impl.Waterway) {
		w := &x.Works[0]
		w.Calls, w.Lock.Gate, w.Turn = callsOf(a, c), impl.GateShut, impl.Turn{Count: 1}
		w.Lock.Inside = []impl.Train{b}
		x.Passings = append(x.Passings, impl.Passing{Time: 10, Work: 0, Train: b})
		x.Book = append(x.Book, naiveEntries(x.Tariff, b, 10)...)
	})
}

// TestOrderOfEntering has an appointment, a class and times of calls that count, and not all fit.
func TestOrderOfEntering(t *testing.T) {
	first, second, third := ranked(21, impl.ClassSmall, true), ranked(22, impl.ClassPassenger, true), ranked(23, impl.ClassCargo, true)
	list := []impl.Call{
		{Train: third, Since: 2, Booked: -1},
		{Train: down(row(25)), Since: 0, Booked: 0},
		{Train: second, Since: 9, Booked: -1},
		{Train: ranked(24, impl.ClassPassenger, true), Since: 11, Booked: -1}, // has not come yet
		{Train: first, Since: 9, Booked: 10},
		{Train: sized(61, 5, 26), Since: 0, Booked: -1}, // does not fit
	}
	list[5].Train.Up = true
	x := atLock(impl.GateBelow, list)
	got := impl.WorkLock(x, 0)
	if ids := idsOfTrains(got.Works[0].Lock.Inside); !slices.Equal(ids, []int{21, 22, 23}) {
		t.Errorf("%v are inside", ids)
	}
	if ids := idsOfCalls(got.Works[0].Calls); !slices.Equal(ids, []int{25, 24, 26}) {
		t.Errorf("%v call", ids)
	}
	var passed []int
	for _, p := range got.Passings[2:] {
		passed = append(passed, impl.IdsOf(p.Train)...)
	}
	if !slices.Equal(passed, []int{21, 22, 23}) {
		t.Errorf("%v have passed", passed)
	}
}

// TestWhoIsChosen has trains of which not all fit, where the most boats enter.
func TestWhoIsChosen(t *testing.T) {
	wideOne := sized(30, 12, 21)
	pair := up(row(22, 23))
	long := sized(50, 12, 24)
	single := sized(30, 12, 25)
	for _, k := range []struct {
		list []impl.Train
		want []int
	}{
		{[]impl.Train{wideOne, pair, single}, []int{21, 22, 23}},
		{[]impl.Train{wideOne, single, pair}, []int{21, 22, 23}},
		{[]impl.Train{wideOne, single}, []int{21, 25}},
		{[]impl.Train{long, wideOne, single}, []int{21, 25}},
		{[]impl.Train{long, wideOne}, []int{24}},
		{[]impl.Train{wideOne, wideOne}, []int{21}},
	} {
		var list []impl.Call
		for i, train := range k.list {
			train = copied(train)
			train.Up = true
			list = append(list, impl.Call{Train: train, Since: i, Booked: -1})
		}
		got := impl.WorkLock(atLock(impl.GateBelow, list), 0)
		if ids := idsOfTrains(got.Works[0].Lock.Inside); !slices.Equal(ids, k.want) {
			t.Errorf("of %v, %v enter", idsOfTrains(k.list), ids)
		}
		if len(got.Passings)-2 != len(got.Works[0].Lock.Inside) || len(got.Works[0].Calls) != len(list)-len(got.Works[0].Lock.Inside) {
			t.Errorf("of %v, %d have passed and %v call", idsOfTrains(k.list), len(got.Passings)-2, idsOfCalls(got.Works[0].Calls))
		}
	}
	// The ninth call does not count, even if none of those before it fits.
	list := callsOf(slices.Repeat([]impl.Train{up(row(1), row(2), row(3))}, 8)...)
	x := atLock(impl.GateBelow, append(list, impl.Call{Train: up(row(30)), Since: 7, Booked: -1}))
	checkWork(t, "the ninth", x, unchanged)
	x.Works[0].Calls = x.Works[0].Calls[1:]
	if got := impl.WorkLock(x, 0); !slices.Equal(idsOfTrains(got.Works[0].Lock.Inside), []int{30}) {
		t.Errorf("the eighth does not enter: %s", differing(got, x))
	}
}

// TestWhoMayNotEnter has a call each that does not enter, for which the gate stays open or is shut.
func TestWhoMayNotEnter(t *testing.T) {
	shuts := func(x *impl.Waterway) { x.Works[0].Lock.Gate = impl.GateShut }
	checkWork(t, "bound to this side", atLock(impl.GateBelow, callsOf(down(row(21)))), shuts)
	checkWork(t, "bound to the other side", atLock(impl.GateAbove, callsOf(up(row(21)))), shuts)
	checkWork(t, "too deep below", atLock(impl.GateBelow, callsOf(deep(21, 13, true))), unchanged)
	checkWork(t, "too deep above", atLock(impl.GateAbove, callsOf(deep(21, 16, false))), unchanged)
	checkWork(t, "too long", atLock(impl.GateBelow, callsOf(up(row(21), row(22), row(23)))), unchanged)
	checkWork(t, "not yet", atLock(impl.GateBelow, []impl.Call{{Train: up(row(21)), Since: 11, Booked: -1}}), unchanged)
	checkWork(t, "not yet, booked", atLock(impl.GateBelow, []impl.Call{{Train: up(row(21)), Since: 11, Booked: 2}}), unchanged)
	checkWork(t, "nobody", atLock(impl.GateBelow, nil), unchanged)
	checkWork(t, "nobody above", atLock(impl.GateAbove, nil), unchanged)
	// One that waits on the other side, but is not able to enter there, does not count.
	checkWork(t, "too deep above, from below", atLock(impl.GateBelow, callsOf(deep(21, 16, false))), unchanged)
	checkWork(t, "too deep below, from above", atLock(impl.GateAbove, callsOf(deep(21, 13, true))), unchanged)
	checkWork(t, "too long, from below", atLock(impl.GateBelow, callsOf(down(row(21), row(22), row(23)))), unchanged)
	checkWork(t, "not yet, from below", atLock(impl.GateBelow, []impl.Call{{Train: down(row(21)), Since: 11, Booked: -1}}), unchanged)
}

// TestPausesOfLocks has nobody enter from 100 to 110 and from 200 to 205.
func TestPausesOfLocks(t *testing.T) {
	for time, open := range map[int]bool{10: true, 99: true, 100: false, 105: false, 109: false, 110: true, 199: true, 200: false, 204: false, 205: true} {
		x := atLock(impl.GateBelow, callsOf(up(row(21))))
		x.Time = time
		got := impl.WorkLock(x, 0)
		if (len(got.Works[0].Lock.Inside) == 1) != open || alike(got, x) == open {
			t.Errorf("at %d: %s", time, differing(got, x))
		}
		// The gate is shut all the same if the other side is next.
		x = atLock(impl.GateAbove, callsOf(up(row(21))))
		x.Time = time
		checkWork(t, "shut", x, func(x *impl.Waterway) { x.Works[0].Lock.Gate = impl.GateShut })
	}
}

// TestTurnsOfLocks has the gate shut for the other direction, after three lockages in one.
func TestTurnsOfLocks(t *testing.T) {
	tooDeep := func(direction bool) impl.Train { return deep(21, 12, direction) }
	for _, k := range []struct {
		turn  impl.Turn
		shuts bool
	}{{impl.Turn{Count: 2}, false}, {impl.Turn{Count: 3}, true}, {impl.Turn{Up: true, Count: 3}, false}} {
		// A train that is able waits above in a pause; another one waits below.
		x := atLock(impl.GateAbove, callsOf(tooDeep(false), up(row(22))))
		x.Time, x.Works[0].Turn = 100, k.turn
		x.Works[0].Calls[0].Since = 1
		got := impl.WorkLock(x, 0)
		if shut := got.Works[0].Lock.Gate == impl.GateShut; shut != k.shuts || len(got.Works[0].Calls) != 2 {
			t.Errorf("after the turn %+v: %s", k.turn, differing(got, x))
		}
	}
	// Who may enter does so, whoever is next.
	x := atLock(impl.GateAbove, callsOf(down(row(21)), up(row(22))))
	x.Works[0].Turn = impl.Turn{Count: 3}
	got := impl.WorkLock(x, 0)
	if got.Works[0].Turn != (impl.Turn{Count: 4}) || !slices.Equal(idsOfTrains(got.Works[0].Lock.Inside), []int{21}) {
		t.Errorf("a fourth lockage: %s", differing(got, x))
	}
	x.Works[0].Turn.Count = impl.MaxTime
	if got = impl.WorkLock(x, 0); got.Works[0].Turn != (impl.Turn{Count: impl.MaxTime}) {
		t.Errorf("after very many lockages the turn is %+v", got.Works[0].Turn)
	}
}

func TestGatesShutWithTrainsInside(t *testing.T) {
	shuts := func(x *impl.Waterway) { x.Works[0].Lock.Gate = impl.GateShut }
	checkWork(t, "bound to the other side", atLock(impl.GateBelow, nil, up(row(21))), shuts)
	checkWork(t, "bound to the other side, above", atLock(impl.GateAbove, nil, down(row(21))), shuts)
	// While some are inside, nobody enters.
	checkWork(t, "others wait", atLock(impl.GateBelow, callsOf(up(row(22))), up(row(21))), shuts)
	checkWork(t, "others wait above", atLock(impl.GateAbove, callsOf(down(row(22))), down(row(21))), shuts)
	checkWork(t, "too deep to leave", atLock(impl.GateAbove, nil, deep(21, 16, true)), shuts)
}

func TestGatesOpen(t *testing.T) {
	opens := func(gate int) func(x *impl.Waterway) {
		return func(x *impl.Waterway) { x.Works[0].Lock.Gate = gate }
	}
	// The chamber has the level 51, the lower reach 50.
	checkWork(t, "to leave below", atLock(impl.GateShut, nil, down(row(21))), opens(impl.GateBelow))
	checkWork(t, "to enter below", atLock(impl.GateShut, callsOf(up(row(21)))), opens(impl.GateBelow))
	above := func(list []impl.Call, inside ...impl.Train) impl.Waterway {
		return with(atLock(impl.GateShut, list, inside...), func(x *impl.Waterway) { x.Works[0].Lock.Water = 78 })
	}
	checkWork(t, "to leave above", above(nil, up(row(21))), opens(impl.GateAbove))
	checkWork(t, "to enter above", above(callsOf(down(row(21)))), opens(impl.GateAbove))
	// The first one inside counts, and those that call do not.
	checkWork(t, "first down", atLock(impl.GateShut, callsOf(down(row(23))), down(row(21)), up(row(22))), opens(impl.GateBelow))
	checkWork(t, "first up", above(callsOf(up(row(23))), up(row(21)), down(row(22))), opens(impl.GateAbove))
	// The first call counts, except after three lockages in its direction.
	x := atLock(impl.GateShut, callsOf(up(row(21)), down(row(22))))
	checkWork(t, "first call", x, opens(impl.GateBelow))
	x = above(callsOf(up(row(21)), down(row(22))))
	x.Works[0].Turn.Count = 3
	checkWork(t, "the other direction", x, opens(impl.GateAbove))
	// Also in a pause.
	x = atLock(impl.GateShut, callsOf(up(row(21))))
	x.Time = 100
	checkWork(t, "in a pause", x, opens(impl.GateBelow))
}

func TestShutGatesStayShut(t *testing.T) {
	checkWork(t, "nobody", atLock(impl.GateShut, nil), unchanged)
	checkWork(t, "not yet", atLock(impl.GateShut, []impl.Call{{Train: up(row(21)), Since: 11, Booked: -1}}), unchanged)
	checkWork(t, "too deep", atLock(impl.GateShut, callsOf(deep(21, 13, true), deep(22, 16, false))), unchanged)
	checkWork(t, "too long", atLock(impl.GateShut, callsOf(up(row(21), row(22), row(23)))), unchanged)
}

func TestChambersFillAndDrain(t *testing.T) {
	fill := func(list []impl.Call, inside ...impl.Train) {
		// 24 levels of 2 are missing.
		checkWork(t, "fill", atLock(impl.GateShut, list, inside...), func(x *impl.Waterway) {
			x.Works[0].Lock.Water, x.Reaches[0].Volume = 78, 702
		})
	}
	fill(nil, up(row(21)))
	fill(nil, up(row(21)), down(row(22)))
	fill(callsOf(down(row(21))))
	fill(callsOf(up(row(23))), up(row(21)))
	drain := func(list []impl.Call, inside ...impl.Train) {
		x := atLock(impl.GateShut, list, inside...)
		x.Works[0].Lock.Water = 34
		checkWork(t, "drain", x, func(x *impl.Waterway) {
			x.Works[0].Lock.Water, x.Reaches[1].Pipe = 28, []int{9}
		})
	}
	drain(nil, down(row(21)))
	drain(nil, down(row(21)), up(row(22)))
	drain(callsOf(up(row(21))))
	drain(callsOf(down(row(23))), down(row(21)))
	// The chamber may have to fill from below and to drain above, too, and at once no more than the rate.
	x := atLock(impl.GateShut, callsOf(up(row(21))))
	x.Works[0].Lock.Water = 2
	checkWork(t, "fill from below", x, func(x *impl.Waterway) { x.Works[0].Lock.Water, x.Reaches[1].Volume = 28, 474 })
	x = atLock(impl.GateShut, callsOf(down(row(21))))
	x.Works[0].Lock.Water = 200
	checkWork(t, "drain above", x, func(x *impl.Waterway) { x.Works[0].Lock.Water, x.Reaches[0].Volume = 150, 800 })
}

// TestChambersWithoutSpace has so much water that what is drained would be too much for all reaches.
func TestChambersWithoutSpace(t *testing.T) {
	for _, more := range []int{-1, 0, 1} {
		x := atLock(impl.GateShut, nil, down(row(21)))
		x.Works[0].Lock.Water = 34
		x.Reaches[0].Volume = impl.MaxAmount - 706 - 6 + more
		got := impl.WorkLock(x, 0)
		if (more > 0) != alike(got, x) || !impl.WaterwayOk(got) {
			t.Errorf("6 into space for %d: %s", 6-more, differing(got, x))
		}
	}
	// A chamber with all that can be in it takes no more.
	x := atLock(impl.GateShut, nil, up(row(21)))
	x.Works[0].Lock.Water, x.Works[0].Lock.Area, x.Works[0].Lock.Base = impl.MaxAmount-3, 10000, 0
	x.Reaches[0] = lifted(1000, 100000, 200000)
	checkWork(t, "full", x, unchanged)
}

// TestPassingsAtTheLimit has nobody enter where one passing too many would be noted.
func TestPassingsAtTheLimit(t *testing.T) {
	for _, more := range []int{-1, 0, 1} {
		x := atLock(impl.GateBelow, callsOf(up(row(21)), up(row(22))))
		x.Passings = slices.Repeat(x.Passings[:1], 498+more)
		got := impl.WorkLock(x, 0)
		if (more > 0) != alike(got, x) || !impl.WaterwayOk(got) || more <= 0 && len(got.Passings) != 500+more {
			t.Errorf("with %d passings: %s", len(x.Passings), differing(got, x))
		}
	}
}

// TestBookAtTheLimit has a passing all the same where the book has no room for its entries, of which there are two.
func TestBookAtTheLimit(t *testing.T) {
	for _, k := range []struct{ before, after int }{{1995, 1999}, {1996, 2000}, {1997, 1999}, {1998, 2000}, {1999, 1999}, {2000, 2000}} {
		x := atLock(impl.GateBelow, callsOf(up(row(21)), up(row(22))))
		x.Book = bookOf(k.before)
		got := impl.WorkLock(x, 0)
		if len(got.Book) != k.after || len(got.Passings) != 4 || len(got.Works[0].Lock.Inside) != 2 || !impl.WaterwayOk(got) {
			t.Errorf("with %d entries: %s", k.before, differing(got, x))
		}
	}
	// One that has fewer entries still has room behind one that has not.
	x := atLock(impl.GateBelow, callsOf(up(row(21)), ranked(22, impl.ClassSmall, true)))
	x.Tariff = impl.Tariff{PerClass: []int{0, 2, 1}, Weights: []int{1, 1}}
	x.Book = bookOf(1999)
	got := impl.WorkLock(x, 0)
	if last := (impl.Entry{From: 0, To: 1, Amount: 1, Time: 10, Why: 22}); len(got.Book) != 2000 || got.Book[1999] != last || len(got.Passings) != 4 {
		t.Errorf("with room for one: %s", differing(got, x))
	}
}

func TestWorkLockRejects(t *testing.T) {
	for _, k := range numbersOfNoWork() {
		if got := impl.WorkLock(plainWaterway(), k); !alike(got, plainWaterway()) {
			t.Errorf("WorkLock(%d): %s", k, differing(got, plainWaterway()))
		}
	}
	for _, x := range invalidWaterways() {
		for k := -1; k < 3; k++ {
			if got := impl.WorkLock(x, k); !alike(got, x) {
				t.Errorf("WorkLock(%d): %s", k, differing(got, x))
			}
		}
	}
}

// TestManyLocks compares what works do with the text of the chapter.
func TestManyLocks(t *testing.T) {
	t.Parallel()
	rnd := rand.New(rand.NewSource(94))
	cases := map[int]int{}
	spoilt := 0
	for range 500 {
		x := randomWaterway(rnd)
		if rnd.Intn(3) == 0 {
			x = crowded(rnd, x)
		}
		for range 12 {
			k := rnd.Intn(len(x.Works)+2) - 1
			if able, want := impl.AbleCalls(x, k), naiveAble(x, k); !alike(able, want) {
				t.Fatalf("AbleCalls = %v, not %v", idsOfCalls(able), idsOfCalls(want))
			}
			got, want := impl.WorkLock(x, k), naiveWork(x, k)
			if !alike(got, want) {
				t.Fatalf("WorkLock(%d): %s", k, differing(got, want))
			}
			if naiveOk(x) && k >= 0 && k < len(x.Works) {
				y := copied(x)
				cases[naiveAct(&y, k)]++
				if !naiveOk(y) {
					spoilt++
				}
			}
			x = got
		}
	}
	for number := 1; number <= 5; number++ {
		if cases[number] < 100 {
			t.Errorf("the cases are %v", cases)
		}
	}
	if spoilt < 10 {
		t.Errorf("%d times the result would not be valid", spoilt)
	}
}
