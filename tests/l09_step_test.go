package tests

import (
	"math"
	"math/rand"
	"slices"
	"testing"

	"loop.example/g03317/impl"
)

// crossing returns a waterway in which one boat comes upstream to the end of a reach at the second step.
func crossing() impl.Waterway {
	upper, _ := impl.NewReach(points{{X: 40, Y: 0}, {X: 140, Y: 100000}}, 90, 0)
	lower, _ := impl.NewReach(points{{X: 0, Y: 0}, {X: 100, Y: 100000}}, 50, 0)
	w := impl.Work{
		Lock: impl.Lock{Length: 40, Width: 10, SillAbove: 40, Area: 1, Rate: 500},
		Weir: impl.Weir{Gates: 1, Step: 1, Crest: 120, Width: 1},
		Rule: impl.Rule{Low: 100, High: 110, Flood: 130},
	}
	x, _ := impl.NewWaterway([]impl.Reach{upper, lower}, []impl.Way{{Length: 10, Bed: 40}, {Length: 10}}, []impl.Work{w}, plainTariff())
	x, _ = impl.EnterTrain(x, up(row(5)))
	return x
}

// TestOneCrossing follows a boat from step to step.
func TestOneCrossing(t *testing.T) {
	x := crossing()
	for i, k := range []struct {
		where       string
		place, gate int
		water       int
	}{
		{"below", 4, 0, 0},
		// It calls, and the chamber fills to the level of the lower reach.
		{"calls", 0, 0, 50}, {"calls", 0, impl.GateBelow, 50}, {"inside", 0, 0, 50},
		// Then to that of the upper one.
		{"inside", 0, 0, 90}, {"inside", 0, impl.GateAbove, 90}, {"above", 10, impl.GateAbove, 90},
		{"above", 4, impl.GateAbove, 90}, {"arrived", 0, impl.GateAbove, 90}, {"arrived", 0, impl.GateAbove, 90},
	} {
		x = impl.StepWaterway(x, 0)
		places := map[string]int{"below": len(x.Movers[1]), "calls": len(x.Works[0].Calls), "inside": len(x.Works[0].Lock.Inside), "above": len(x.Movers[0]), "arrived": len(x.Arrived)}
		place := 0
		for _, m := range slices.Concat(x.Movers...) {
			place = m.Place
		}
		l := x.Works[0].Lock
		if places[k.where] != 1 || place != k.place || l.Gate != k.gate || l.Water != k.water || x.Time != i+1 {
			t.Errorf("at %d it is %v, at %d; the lock is %s", x.Time, places, place, briefLock(l))
		}
		if !impl.LedgerOk(x) {
			t.Errorf("at %d the ledger is not true", x.Time)
		}
	}
	passing := impl.Passing{Time: 4, Work: 0, Train: up(row(5))}
	if !alike(x.Passings, []impl.Passing{passing}) || !slices.Equal(x.Book, naiveEntries(x.Tariff, passing.Train, 4)) || x.Works[0].Turn != (impl.Turn{Up: true, Count: 1}) {
		t.Errorf("the passings are %v, the book is %v", x.Passings, x.Book)
	}
}

func TestStepWaterway(t *testing.T) {
	for _, inflow := range []int{0, 1, 60, 5000, impl.MaxAmount - 1540, impl.MaxAmount - 1539, impl.MaxAmount} {
		x := plainWaterway()
		for range 5 {
			got, want := impl.StepWaterway(x, inflow), naiveStep(x, inflow)
			if alike(got, x) || !alike(got, want) {
				t.Errorf("StepWaterway(%d): %s", inflow, differing(got, want))
			}
			x = got
		}
	}
}

// TestOrderOfOneStep has what one operation does count in the next one.
func TestOrderOfOneStep(t *testing.T) {
	// The train comes to the end, calls at the new time, and enters at once, since the gate is open.
	x := sailing([]impl.Mover{goes(down(row(21)), 36)}, nil, nil)
	x.Works[0].Lock.Gate, x.Works[0].Lock.Water = impl.GateAbove, 78
	got := impl.StepWaterway(x, 0)
	if !alike(got.Passings[2:], []impl.Passing{{Time: 11, Work: 0, Train: down(row(21))}}) || len(got.Works[0].Calls) != 0 {
		t.Errorf("who comes to an open gate: %s", differing(got, x))
	}
	// What the first work lets out counts at the second one.
	x = sailing(nil, nil, nil)
	x.Works[0].Lock.Inside, x.Works[0].Lock.Water = []impl.Train{down(row(21))}, 34
	x.Works[1].Lock.Inside, x.Works[1].Lock.Water = []impl.Train{up(row(22))}, 86
	x.Reaches[1] = lake(495)
	// The level of the middle reach, 49.5, counts as 50, and with 6 more as 51.
	first := impl.WorkLock(impl.WorkLock(x, 0), 1)
	other := impl.WorkLock(impl.WorkLock(x, 1), 0)
	if alike(first, other) {
		t.Errorf("the order of the works does not count: %s", differing(first, x))
	}
	got = impl.StepWaterway(x, 0)
	if want := impl.WorkLock(impl.WorkLock(impl.SailAll(impl.SteerWeirs(impl.PourWater(x, 0), 0)), 0), 1); !alike(got, want) {
		t.Errorf("one step: %s", differing(got, want))
	}
}

// TestStepsGoOn has operations that return their argument unchanged, which does not keep the others from being performed.
func TestStepsGoOn(t *testing.T) {
	// Nobody may arrive, but the time goes on, and the lock works.
	x := sailing([]impl.Mover{goes(up(row(1)), 0)}, nil, nil)
	x.Arrived = slices.Repeat(x.Arrived[:1], 500)
	x.Works[1].Lock.Inside, x.Works[1].Lock.Gate = []impl.Train{up(row(22))}, impl.GateAbove
	got := impl.StepWaterway(x, 0)
	if len(got.Movers[0]) != 1 || got.Time != 11 || !slices.Equal(idsOfMovers(got.Movers[1]), []int{22}) {
		t.Errorf("nobody may arrive: %s", differing(got, x))
	}
	// The first lock cannot let its train go, and the second one can.
	x = sailing(slices.Repeat([]impl.Mover{goes(up(row(1)), 40)}, 24), nil, nil)
	x.Works[0].Lock.Inside, x.Works[0].Lock.Gate = []impl.Train{up(row(21))}, impl.GateAbove
	x.Works[1].Lock.Inside, x.Works[1].Lock.Gate = []impl.Train{up(row(22))}, impl.GateAbove
	got = impl.StepWaterway(x, 0)
	if !slices.Equal(idsOfTrains(got.Works[0].Lock.Inside), []int{21}) || !slices.Equal(idsOfMovers(got.Movers[1]), []int{22}) || got.Movers[0][0].Place != 34 {
		t.Errorf("the first lock cannot work: %s", differing(got, x))
	}
	// What is poured makes it invalid, so that nothing else happens, in this step or in others.
	x = plainWith(func(x *impl.Waterway) { x.Reaches[0].Volume, x.Start = impl.MaxAmount-706, 0 })
	got = impl.StepWaterway(x, 7)
	if !alike(got, impl.PourWater(x, 7)) || impl.WaterwayOk(got) || !alike(got, impl.RunWaterway(x, 7, 2000)) {
		t.Errorf("too much water: %s", differing(got, x))
	}
	// What leaves makes it invalid.
	x = draining(20, 5, 10)
	x.Out = impl.MaxAmount
	got = impl.StepWaterway(x, 0)
	if !alike(got, impl.SteerWeirs(impl.PourWater(x, 0), 0)) || impl.WaterwayOk(got) || got.Out <= impl.MaxAmount || !alike(got, impl.RunWaterway(x, 0, 9)) {
		t.Errorf("too much has left: %s", differing(got, x))
	}
}

func TestStepWaterwayRejects(t *testing.T) {
	reject := func(x impl.Waterway, inflow int) {
		if got := impl.StepWaterway(x, inflow); !alike(got, x) {
			t.Errorf("StepWaterway(%d): %s", inflow, differing(got, x))
		}
		for _, n := range []int{0, 1, 2, 2000} {
			if got := impl.RunWaterway(x, inflow, n); !alike(got, x) {
				t.Errorf("RunWaterway(%d, %d): %s", inflow, n, differing(got, x))
			}
		}
	}
	for _, inflow := range []int{-1, math.MinInt, impl.MaxAmount + 1, math.MaxInt} {
		reject(plainWaterway(), inflow)
	}
	for _, inflow := range []int{0, 60} {
		reject(plainWith(func(x *impl.Waterway) { x.Time = impl.MaxTime }), inflow)
	}
	for _, x := range invalidWaterways() {
		reject(x, 0)
	}
}

func TestRunWaterway(t *testing.T) {
	x := plainWaterway()
	for n := range 60 {
		if got := impl.RunWaterway(plainWaterway(), 60, n); !alike(got, x) || got.Time != 10+n {
			t.Fatalf("after %d steps: %s", n, differing(got, x))
		}
		x = impl.StepWaterway(x, 60)
	}
	// To the last time and not beyond it.
	late := plainWith(func(x *impl.Waterway) { x.Time = impl.MaxTime - 3 })
	for n, want := range map[int]int{0: impl.MaxTime - 3, 2: impl.MaxTime - 1, 3: impl.MaxTime, 4: impl.MaxTime, 2000: impl.MaxTime} {
		if got := impl.RunWaterway(late, 60, n); got.Time != want || !alike(got, naiveRun(late, 60, min(n, 5))) {
			t.Errorf("after %d steps: %s", n, differing(got, late))
		}
	}
	for n, want := range map[int]int{1999: 2009, 2000: 2010} {
		if got := impl.RunWaterway(plainWaterway(), 60, n); got.Time != want {
			t.Errorf("after %d steps the time is %d", n, got.Time)
		}
	}
	for _, n := range []int{-1, -2, math.MinInt, 2001, 2002, impl.MaxTime, 1 << 32, math.MaxInt} {
		for _, inflow := range []int{-1, 0, 60} {
			if got := impl.RunWaterway(plainWaterway(), inflow, n); !alike(got, plainWaterway()) {
				t.Errorf("after %d steps: %s", n, differing(got, plainWaterway()))
			}
		}
	}
	for _, x := range invalidWaterways() {
		for _, n := range []int{math.MinInt, -1, 2001, math.MaxInt} {
			if got := impl.RunWaterway(x, 60, n); !alike(got, x) {
				t.Errorf("after %d steps: %s", n, differing(got, x))
			}
		}
	}
}

// TestManySteps compares what happens in any waterways with the text of the chapter.
func TestManySteps(t *testing.T) {
	t.Parallel()
	rnd := rand.New(rand.NewSource(95))
	spoilt := 0
	for range 60 {
		x := randomWaterway(rnd)
		if rnd.Intn(3) == 0 {
			x = crowded(rnd, x)
		}
		inflow := []int{0, 3, 40, 200, impl.MaxAmount - x.Start - x.In}[rnd.Intn(5)]
		before := x
		for n := range 15 {
			got, want := impl.StepWaterway(x, inflow), naiveStep(x, inflow)
			if !alike(got, want) {
				t.Fatalf("step %d: %s", n, differing(got, want))
			}
			x = got
		}
		if got := impl.RunWaterway(before, inflow, 15); !alike(got, x) {
			t.Fatalf("15 steps at once: %s", differing(got, x))
		}
		if naiveOk(before) && !naiveOk(x) {
			spoilt++
		}
	}
	if spoilt < 3 {
		t.Errorf("%d are not valid any more", spoilt)
	}
}

// fullWaterway has as much as can be everywhere, and trains of six boats, of which one alone fits into each lock.
func fullWaterway() impl.Waterway {
	x := sizedWaterway(6, 6, 6, 5)
	first := 1
	next := func() impl.Train {
		first = first%9000 + 6
		return impl.Train{Up: first%4 == 0, Rows: rows{row(first), row(first + 1), row(first + 2), row(first + 3), row(first + 4), row(first + 5)}}
	}
	for k := range x.Reaches {
		for range impl.MaxCalls {
			x.Movers[k] = append(x.Movers[k], goes(next(), 20))
		}
	}
	for k := range x.Works {
		x.Works[k].Calls, x.Works[k].Pauses = nil, nil
		x.Works[k].Lock.Length = 200
		for range impl.MaxCalls {
			x.Works[k].Calls = append(x.Works[k].Calls, calling(next()))
		}
	}
	x.Arrived, x.Entered, x.Book, x.Passings = nil, repeated(3, 2000), bookOf(2000), nil
	for range 500 {
		x.Arrived = append(x.Arrived, next())
		x.Passings = append(x.Passings, impl.Passing{Train: next()})
	}
	return copied(x)
}

// TestLongRuns has 2000 steps where all is at its limit.
func TestLongRuns(t *testing.T) {
	t.Parallel()
	x := fullWaterway()
	got := impl.RunWaterway(x, 5, 2000)
	if !impl.WaterwayOk(x) || !impl.WaterwayOk(got) || got.Time != 2010 || len(got.Passings) != 500 || len(got.Arrived) != 500 {
		t.Errorf("after 2000 steps the time is %d, with %d passings", got.Time, len(got.Passings))
	}
	if !alike(impl.RunWaterway(x, 5, 3), naiveRun(x, 5, 3)) {
		t.Errorf("3 steps are others")
	}
}
