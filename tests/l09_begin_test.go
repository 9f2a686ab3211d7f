package tests

import (
	"math/rand"
	"slices"
	"testing"

	"loop.example/g03317/impl"
)

// begun returns the plain waterway as it begins.
func begun() impl.Waterway {
	reaches, ways, works := plainParts()
	x, _ := impl.NewWaterway(reaches, ways, works, plainTariff())
	return x
}

func TestNewWaterway(t *testing.T) {
	reaches, ways, works := plainParts()
	x, ok := impl.NewWaterway(reaches, ways, works, plainTariff())
	want := impl.Waterway{Reaches: reaches, Ways: ways, Works: works, Movers: make([][]impl.Mover, 3), Tariff: plainTariff(), Start: 1516}
	if !ok || !alike(x, want) {
		t.Errorf("NewWaterway = %v, %s", ok, differing(x, want))
	}
	if !impl.WaterwayOk(x) || !impl.LedgerOk(x) || impl.WaterOf(x) != 1516 {
		t.Errorf("a new waterway has %d and the ledger %v", impl.WaterOf(x), impl.LedgerOk(x))
	}
}

// TestWorksOfNewWaterways keeps what is not a train.
func TestWorksOfNewWaterways(t *testing.T) {
	for gate := range 3 {
		reaches, ways, works := plainParts()
		works[0].Lock.Gate, works[1].Turn = gate, impl.Turn{Up: true, Count: impl.MaxTime}
		works[1].Calls, works[1].Lock.Inside = []impl.Call{}, []impl.Train{}
		x, ok := impl.NewWaterway(reaches, ways, works, plainTariff())
		if !ok || !alike(x.Works, works) {
			t.Errorf("NewWaterway has %v, the works %+v", ok, x.Works)
		}
	}
}

func rejectNew(t *testing.T, name string, reaches []impl.Reach, ways []impl.Way, works []impl.Work, f impl.Tariff) {
	t.Helper()
	if x, ok := impl.NewWaterway(reaches, ways, works, f); ok || !alike(x, impl.Waterway{}) {
		t.Errorf("%s: NewWaterway = %s, %v", name, briefly(x), ok)
	}
}

func TestNewWaterwayRejects(t *testing.T) {
	for _, x := range invalidWaterways() {
		// What is not one of the parts does not count, so not all of these are rejected.
		empty := impl.Waterway{Reaches: x.Reaches, Ways: x.Ways, Works: x.Works, Movers: make([][]impl.Mover, len(x.Reaches)), Tariff: x.Tariff}
		if !naiveOk(empty) {
			rejectNew(t, "parts", x.Reaches, x.Ways, x.Works, x.Tariff)
		}
	}
	for name, change := range map[string]func(w *impl.Work){
		"a train inside": func(w *impl.Work) { w.Lock.Inside = []impl.Train{up(row(1))} },
		"a call":         func(w *impl.Work) { w.Calls = calls(1) },
		"both":           func(w *impl.Work) { w.Calls, w.Lock.Inside = calls(1), []impl.Train{up(row(1))} },
		"no gates":       func(w *impl.Work) { w.Weir.Gates = 0 },
		"no rule":        func(w *impl.Work) { w.Rule = impl.Rule{} },
		"no pause":       func(w *impl.Work) { w.Pauses = between(5, 5) },
		"no turn":        func(w *impl.Work) { w.Turn.Count = -1 },
		"no lock":        func(w *impl.Work) { w.Lock = impl.Lock{} },
	} {
		for k := range 2 {
			reaches, ways, works := plainParts()
			change(&works[k])
			rejectNew(t, name, reaches, ways, works, plainTariff())
		}
	}
	reaches, ways, works := plainParts()
	rejectNew(t, "no tariff", reaches, ways, works, impl.Tariff{})
	rejectNew(t, "nothing", nil, nil, nil, plainTariff())
	rejectNew(t, "no works", reaches, ways, nil, plainTariff())
	rejectNew(t, "one reach", reaches[:1], ways[:1], nil, plainTariff())
	rejectNew(t, "too many works", reaches, ways, append(works, works[0]), plainTariff())
	rejectNew(t, "seven reaches", slices.Repeat(reaches[:1], 7), slices.Repeat(ways[:1], 7), slices.Repeat(works[:1], 6), plainTariff())
	rejectNew(t, "very many", make([]impl.Reach, 100000), make([]impl.Way, 100000), make([]impl.Work, 99999), plainTariff())
}

// TestWaterOfNewWaterways has as much water as can be, and one more, in reaches and in locks.
func TestWaterOfNewWaterways(t *testing.T) {
	for _, more := range []int{0, 1} {
		reaches, ways, works := plainParts()
		reaches[1].Volume = impl.MaxAmount - 1016 + more
		inReaches, ok := impl.NewWaterway(reaches, ways, works, plainTariff())
		reaches, _, works = plainParts()
		works[1].Lock.Water = impl.MaxAmount - 1486 + more
		inLocks, is := impl.NewWaterway(reaches, ways, works, plainTariff())
		if ok != (more == 0) || is != ok || ok && (inReaches.Start != impl.MaxAmount || inLocks.Start != impl.MaxAmount) {
			t.Errorf("NewWaterway = %v with the water %d, and %v with %d", ok, inReaches.Start, is, inLocks.Start)
		}
	}
	reaches, ways, works := plainParts()
	works[0].Lock.Water, works[1].Lock.Water = impl.MaxAmount, impl.MaxAmount
	rejectNew(t, "full locks", reaches, ways, works, plainTariff())
}

func TestWaterOf(t *testing.T) {
	for name, k := range map[string]struct {
		want   int
		change func(x *impl.Waterway)
	}{
		"plain":           {1516, func(x *impl.Waterway) {}},
		"more":            {1521, func(x *impl.Waterway) { x.Reaches[2].Volume += 5 }},
		"more on its way": {1522, func(x *impl.Waterway) { x.Reaches[2].Pipe[0] += 6 }},
		"more in a lock":  {1523, func(x *impl.Waterway) { x.Works[0].Lock.Water += 7 }},
		"more in another": {1524, func(x *impl.Waterway) { x.Works[1].Lock.Water += 8 }},
		"all that can be": {3 * impl.MaxAmount, func(x *impl.Waterway) {
			x.Reaches[0].Volume, x.Works[0].Lock.Water, x.Works[1].Lock.Water = impl.MaxAmount-706, impl.MaxAmount, impl.MaxAmount
		}},
		"too much":           {0, func(x *impl.Waterway) { x.Reaches[0].Volume = impl.MaxAmount - 705 }},
		"without a passing":  {1516, func(x *impl.Waterway) { x.Passings, x.Start, x.In, x.Out = nil, 0, 0, 0 }},
		"an invalid passing": {0, func(x *impl.Waterway) { x.Passings[0].Work = -1 }},
	} {
		if got := impl.WaterOf(plainWith(k.change)); got != k.want {
			t.Errorf("WaterOf %s = %d, not %d", name, got, k.want)
		}
	}
	for _, x := range invalidWaterways() {
		if got := impl.WaterOf(x); got != 0 {
			t.Errorf("WaterOf(%s) = %d", briefly(x), got)
		}
	}
}

func TestEnterTrain(t *testing.T) {
	x := plainWaterway()
	for _, k := range []struct {
		train impl.Train
		reach int
		m     impl.Mover
		ids   []int
	}{
		{up(row(20)), 2, impl.Mover{Train: up(row(20)), Place: 20}, []int{20}},
		{down(row(20)), 0, impl.Mover{Train: down(row(20))}, []int{20}},
		{up(row(22, 21), row(23)), 2, impl.Mover{Train: up(row(22, 21), row(23)), Place: 20}, []int{22, 21, 23}},
		{down(row(9999), row(22, 21)), 0, impl.Mover{Train: down(row(9999), row(22, 21))}, []int{9999, 22, 21}},
	} {
		want := with(x, func(y *impl.Waterway) {
			y.Movers[k.reach] = append(y.Movers[k.reach], k.m)
			y.Entered = append(y.Entered, k.ids...)
		})
		if y, ok := impl.EnterTrain(x, k.train); !ok || !alike(y, want) {
			t.Errorf("EnterTrain(%v) = %v, %s", k.train, ok, differing(y, want))
		}
	}
}

func rejectTrain(t *testing.T, x impl.Waterway, train impl.Train) {
	t.Helper()
	if y, ok := impl.EnterTrain(x, train); ok || !alike(x, y) {
		t.Errorf("EnterTrain(%s) = %v, %s", briefly(train), ok, differing(x, y))
	}
}

func TestEnterTrainRejects(t *testing.T) {
	for id := 1; id <= 14; id++ {
		rejectTrain(t, plainWaterway(), up(row(id)))
		rejectTrain(t, plainWaterway(), down(row(20, id), row(21)))
		rejectTrain(t, plainWaterway(), up(row(20), row(id, 21)))
		rejectTrain(t, plainWaterway(), up(row(20), row(21, id)))
	}
	for _, train := range givenInvalidTrains() {
		rejectTrain(t, plainWaterway(), train)
	}
	for _, x := range invalidWaterways() {
		rejectTrain(t, x, up(row(20)))
		rejectTrain(t, x, down(row(20)))
		rejectTrain(t, x, impl.Train{})
	}
	// A boat that has come is known even if it is nowhere, and one that is somewhere may be unknown.
	rejectTrain(t, plainWith(func(x *impl.Waterway) { x.Entered = append(x.Entered, 77) }), up(row(77)))
	if _, ok := impl.EnterTrain(plainWith(func(x *impl.Waterway) { x.Entered = nil }), up(row(5))); !ok {
		t.Errorf("EnterTrain looks for boats at other places than Entered")
	}
}

// TestEnterTrainAtTheLimits has lists with room for one more, and without it.
func TestEnterTrainAtTheLimits(t *testing.T) {
	m := impl.Mover{Train: up(row(1)), Place: 5}
	for _, more := range []int{-1, 0, 1} {
		for _, k := range []struct {
			train  impl.Train
			change func(x *impl.Waterway)
		}{
			{up(row(20)), func(x *impl.Waterway) { x.Movers[2] = slices.Repeat([]impl.Mover{m}, 24-1+more) }},
			{down(row(20)), func(x *impl.Waterway) { x.Movers[0] = slices.Repeat([]impl.Mover{m}, 24-1+more) }},
			{down(row(20)), func(x *impl.Waterway) { x.Entered = repeated(7, 2000-1+more) }},
			{up(row(20, 21), row(22)), func(x *impl.Waterway) { x.Entered = repeated(7, 2000-3+more) }},
		} {
			x := plainWaterway()
			k.change(&x)
			if more > 0 {
				rejectTrain(t, x, k.train)
			} else if y, ok := impl.EnterTrain(x, k.train); !ok || !impl.WaterwayOk(y) || len(y.Entered) != len(x.Entered)+len(impl.IdsOf(k.train)) {
				t.Errorf("EnterTrain(%v) = %v", k.train, ok)
			}
		}
	}
	// The other lists of movers do not count.
	full := plainWith(func(x *impl.Waterway) { x.Movers[1] = slices.Repeat([]impl.Mover{m}, 24) })
	if _, ok := impl.EnterTrain(full, up(row(20))); !ok {
		t.Errorf("EnterTrain counts trains on other reaches")
	}
}

func TestManyTrainsEnter(t *testing.T) {
	rnd := rand.New(rand.NewSource(91))
	results := map[bool]int{}
	for range 400 {
		x := randomWaterway(rnd)
		if rnd.Intn(2) == 0 {
			x = crowded(rnd, x)
		}
		train := randomTrain(rnd, rnd.Intn(100))
		if rnd.Intn(2) == 0 {
			train = barge(rnd, 1+rnd.Intn(9000))
		}
		y, ok := impl.EnterTrain(x, train)
		want, entered := naiveCome(x, train)
		if ok != entered || !alike(y, want) {
			t.Fatalf("EnterTrain(%v) = %v, %s", train, ok, differing(y, want))
		}
		results[ok]++
	}
	if results[true] < 100 || results[false] < 20 {
		t.Errorf("the results are %v", results)
	}
}
