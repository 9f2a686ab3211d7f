package tests

import (
	"math"
	"slices"
	"testing"

	"loop.example/g03317/impl"
)

func plainWork() impl.Work {
	return plainWaterway().Works[0]
}

func workWith(change func(w *impl.Work)) impl.Work {
	w := plainWork()
	change(&w)
	return w
}

// calls returns as many valid calls, of the same train.
func calls(count int) []impl.Call {
	return slices.Repeat([]impl.Call{waits(1, 0, -1)}, count)
}

func validWorks() []impl.Work {
	list := []impl.Work{
		plainWork(),
		workWith(func(w *impl.Work) { w.Calls = nil }),
		workWith(func(w *impl.Work) { w.Calls = []impl.Call{} }),
		workWith(func(w *impl.Work) { w.Calls = calls(impl.MaxCalls - 1) }),
		workWith(func(w *impl.Work) { w.Calls = calls(impl.MaxCalls) }),
		workWith(func(w *impl.Work) { w.Lock.Inside = numbered(impl.MaxQueue) }),
		// The same boats may call and be inside, and neither needs to fit.
		workWith(func(w *impl.Work) { w.Lock.Inside = []impl.Train{w.Calls[0].Train} }),
	}
	for _, r := range validRules() {
		list = append(list, workWith(func(w *impl.Work) { w.Rule = r }))
	}
	for _, weir := range validWeirs() {
		list = append(list, workWith(func(w *impl.Work) { w.Weir = weir }))
	}
	for _, p := range validPauses() {
		list = append(list, workWith(func(w *impl.Work) { w.Pauses = p }))
	}
	for _, turn := range validTurns() {
		list = append(list, workWith(func(w *impl.Work) { w.Turn = turn }))
	}
	for _, c := range validCalls() {
		list = append(list, workWith(func(w *impl.Work) { w.Calls = []impl.Call{c} }))
	}
	for _, l := range validLocks() {
		list = append(list, workWith(func(w *impl.Work) { w.Lock = l }))
	}
	return list
}

func invalidWorks() []impl.Work {
	list := []impl.Work{
		{},
		workWith(func(w *impl.Work) { w.Calls = calls(impl.MaxCalls + 1) }),
		workWith(func(w *impl.Work) { w.Calls = calls(1000000) }),
		workWith(func(w *impl.Work) { w.Calls = make([]impl.Call, 1000000) }),
		workWith(func(w *impl.Work) { w.Calls = append(calls(impl.MaxCalls-1), impl.Call{}) }),
		workWith(func(w *impl.Work) { w.Lock.Inside = numbered(impl.MaxQueue + 1) }),
	}
	for _, r := range invalidRules() {
		list = append(list, workWith(func(w *impl.Work) { w.Rule = r }))
	}
	for _, weir := range invalidWeirs() {
		list = append(list, workWith(func(w *impl.Work) { w.Weir = weir }))
	}
	for _, p := range invalidPauses() {
		list = append(list, workWith(func(w *impl.Work) { w.Pauses = p }))
	}
	for _, turn := range invalidTurns() {
		list = append(list, workWith(func(w *impl.Work) { w.Turn = turn }))
	}
	for _, c := range invalidCalls() {
		list = append(list, workWith(func(w *impl.Work) { w.Calls = []impl.Call{c} }), workWith(func(w *impl.Work) { w.Calls[1] = c }))
	}
	for _, l := range invalidLocks() {
		list = append(list, workWith(func(w *impl.Work) { w.Lock = l }))
	}
	return list
}

func TestWorkOk(t *testing.T) {
	for _, w := range validWorks() {
		if !impl.WorkOk(w) || !impl.WaterwayOk(plainWith(func(x *impl.Waterway) { x.Works[1] = w })) {
			t.Errorf("%s is not a work", briefly(w))
		}
	}
	for _, w := range invalidWorks() {
		first, last := plainWaterway(), plainWaterway()
		first.Works[0], last.Works[1] = w, w
		if impl.WorkOk(w) || impl.WaterwayOk(first) || impl.WaterwayOk(last) {
			t.Errorf("%s is a work", briefly(w))
		}
	}
}

// bounded is a place of a waterway with a range from 0 to the limit.
type bounded struct {
	limit int
	set   func(x *impl.Waterway, n int)
}

func numbersOfWaterways() map[string]bounded {
	return map[string]bounded{
		"Time":                 {1000000, func(x *impl.Waterway, n int) { x.Time = n }},
		"Start":                {1000000000, func(x *impl.Waterway, n int) { x.Start = n }},
		"In":                   {1000000000, func(x *impl.Waterway, n int) { x.In = n }},
		"Out":                  {1000000000, func(x *impl.Waterway, n int) { x.Out = n }},
		"time of a passing":    {1000000, func(x *impl.Waterway, n int) { x.Passings[0].Time = n }},
		"time of the last":     {1000000, func(x *impl.Waterway, n int) { x.Passings[1].Time = n }},
		"work of a passing":    {1, func(x *impl.Waterway, n int) { x.Passings[0].Work = n }},
		"work of the last":     {1, func(x *impl.Waterway, n int) { x.Passings[1].Work = n }},
		"an upper place":       {40, func(x *impl.Waterway, n int) { x.Movers[0][1].Place = n }},
		"a place":              {30, func(x *impl.Waterway, n int) { x.Movers[1][0].Place = n }},
		"a lower place":        {20, func(x *impl.Waterway, n int) { x.Movers[2][0].Place = n }},
		"volume of a reach":    {999999044, func(x *impl.Waterway, n int) { x.Reaches[1].Volume = n }},
		"water in a lock":      {1000000000, func(x *impl.Waterway, n int) { x.Works[1].Lock.Water = n }},
		"bed of a way":         {100000, func(x *impl.Waterway, n int) { x.Ways[2].Bed = n }},
		"since when one waits": {1000000, func(x *impl.Waterway, n int) { x.Works[0].Calls[1].Since = n }},
	}
}

func TestRangesOfWaterways(t *testing.T) {
	for name, r := range numbersOfWaterways() {
		for n, want := range map[int]bool{0: true, 1: true, r.limit - 1: true, r.limit: true, r.limit + 1: false, -1: false, -r.limit: false, math.MinInt: false, math.MaxInt: false, 1 << 32: false} {
			if got := impl.WaterwayOk(plainWith(func(x *impl.Waterway) { r.set(x, n) })); got != want {
				t.Errorf("with %d as %s, WaterwayOk is %v", n, name, got)
			}
		}
	}
}

// lengthsOfWaterways are those of the lists that may have that many items.
func lengthsOfWaterways() map[string]bounded {
	m := impl.Mover{Train: up(row(1)), Place: 20}
	return map[string]bounded{
		"arrived":    {500, func(x *impl.Waterway, count int) { x.Arrived = slices.Repeat(singles(3), count) }},
		"entered":    {2000, func(x *impl.Waterway, count int) { x.Entered = repeated(7, count) }},
		"passings":   {500, func(x *impl.Waterway, count int) { x.Passings = slices.Repeat(x.Passings[:1], count) }},
		"book":       {2000, func(x *impl.Waterway, count int) { x.Book = bookOf(count) }},
		"upper":      {24, func(x *impl.Waterway, count int) { x.Movers[0] = slices.Repeat([]impl.Mover{m}, count) }},
		"middle":     {24, func(x *impl.Waterway, count int) { x.Movers[1] = slices.Repeat([]impl.Mover{m}, count) }},
		"lower":      {24, func(x *impl.Waterway, count int) { x.Movers[2] = slices.Repeat([]impl.Mover{m}, count) }},
		"first work": {24, func(x *impl.Waterway, count int) { x.Works[0].Calls = calls(count) }},
		"last work":  {24, func(x *impl.Waterway, count int) { x.Works[1].Calls = calls(count) }},
		"inside":     {8, func(x *impl.Waterway, count int) { x.Works[0].Lock.Inside = numbered(count) }},
	}
}

func TestLengthsOfWaterways(t *testing.T) {
	for name, l := range lengthsOfWaterways() {
		for count, want := range map[int]bool{0: true, 1: true, l.limit - 1: true, l.limit: true, l.limit + 1: false, l.limit + 2: false, 10 * l.limit: false} {
			x := plainWaterway()
			l.set(&x, count)
			if got := impl.WaterwayOk(x); got != want {
				t.Errorf("with %d as %s, WaterwayOk is %v", count, name, got)
			}
		}
	}
}

func TestIdsThatHaveEntered(t *testing.T) {
	for id, want := range map[int]bool{1: true, 2: true, 9998: true, 9999: true, 0: false, -1: false, 10000: false, math.MinInt: false, math.MaxInt: false, 1<<32 + 1: false} {
		for i := range 14 {
			if got := impl.WaterwayOk(plainWith(func(x *impl.Waterway) { x.Entered[i] = id })); got != want {
				t.Errorf("with the Id %d, WaterwayOk is %v", id, got)
			}
		}
	}
}

// sizedWaterway has these numbers of parts, all of them valid.
func sizedWaterway(reaches int, ways int, lists int, works int) impl.Waterway {
	x := plainWaterway()
	x.Movers, x.Passings = make([][]impl.Mover, lists), nil
	x.Reaches, x.Ways, x.Works = slices.Repeat(x.Reaches[:1], reaches), slices.Repeat(x.Ways[:1], ways), slices.Repeat(x.Works[:1], works)
	return x
}

func TestShapesOfWaterways(t *testing.T) {
	for reaches := range 9 {
		for ways := range 9 {
			for lists := range 9 {
				for works := range 9 {
					want := reaches >= 2 && reaches <= 6 && ways == reaches && lists == reaches && works == reaches-1
					if got := impl.WaterwayOk(sizedWaterway(reaches, ways, lists, works)); got != want {
						t.Errorf("with %d reaches, %d ways, %d lists and %d works, WaterwayOk is %v", reaches, ways, lists, works, got)
					}
				}
			}
		}
	}
}

// invalidWaterways have one thing that is not valid each, or nothing that is.
func invalidWaterways() []impl.Waterway {
	list := []impl.Waterway{
		{},
		{Reaches: make([]impl.Reach, 2), Ways: make([]impl.Way, 2), Movers: make([][]impl.Mover, 2), Works: make([]impl.Work, 1)},
		{Movers: [][]impl.Mover{{{}}}, Works: []impl.Work{{Calls: []impl.Call{{}}}}, Passings: []impl.Passing{{Work: 5}}},
		plainWith(func(x *impl.Waterway) { x.Reaches = x.Reaches[:2] }),
		plainWith(func(x *impl.Waterway) { x.Ways = x.Ways[:2] }),
		plainWith(func(x *impl.Waterway) { x.Ways = append(x.Ways, x.Ways[0]) }),
		plainWith(func(x *impl.Waterway) { x.Movers = x.Movers[:2] }),
		plainWith(func(x *impl.Waterway) { x.Movers = append(x.Movers, nil) }),
		plainWith(func(x *impl.Waterway) { x.Movers = nil }),
		plainWith(func(x *impl.Waterway) { x.Works = x.Works[:1] }),
		plainWith(func(x *impl.Waterway) { x.Works = nil }),
		plainWith(func(x *impl.Waterway) { x.Works = append(x.Works, x.Works[0]) }),
		// All reaches together have too much water.
		plainWith(func(x *impl.Waterway) { x.Reaches[0].Volume = impl.MaxAmount - 705 }),
		plainWith(func(x *impl.Waterway) { x.Reaches[2].Pipe[1] = impl.MaxAmount - 1453 }),
		plainWith(func(x *impl.Waterway) { x.Ways[1].Length = 4 }),
		plainWith(func(x *impl.Waterway) { x.Works[1].Weir.Gates = 0 }),
		plainWith(func(x *impl.Waterway) { x.Movers[2] = []impl.Mover{{Train: up(row(5)), Place: 21}} }),
		plainWith(func(x *impl.Waterway) { x.Passings[1].Work = 2 }),
		plainWith(func(x *impl.Waterway) { x.Time = math.MinInt }),
		plainWith(func(x *impl.Waterway) { x.Time = math.MaxInt }),
		plainWith(func(x *impl.Waterway) { x.Start, x.In, x.Out = math.MaxInt, math.MaxInt, math.MaxInt }),
		plainWith(func(x *impl.Waterway) { x.Start, x.In, x.Out = math.MinInt, math.MinInt, math.MinInt }),
		plainWith(func(x *impl.Waterway) { x.Arrived = make([]impl.Train, 100000) }),
		plainWith(func(x *impl.Waterway) { x.Entered = make([]int, 100000) }),
		plainWith(func(x *impl.Waterway) { x.Book = make(book, 100000) }),
		plainWith(func(x *impl.Waterway) { x.Passings = make([]impl.Passing, 100000) }),
		plainWith(func(x *impl.Waterway) { x.Movers = make([][]impl.Mover, 100000) }),
		plainWith(func(x *impl.Waterway) { x.Works = make([]impl.Work, 100000) }),
	}
	for k := range 3 {
		list = append(list,
			plainWith(func(x *impl.Waterway) { x.Reaches[k].Volume = -1 }),
			plainWith(func(x *impl.Waterway) { x.Reaches[k].Table = nil }),
			plainWith(func(x *impl.Waterway) { x.Ways[k].Bed = -1 }),
			plainWith(func(x *impl.Waterway) { x.Movers[k] = append(x.Movers[k], impl.Mover{}) }),
		)
	}
	return append(list, withBadTrains()...)
}

// withBadTrains have an invalid train at one of the places where trains are.
func withBadTrains() []impl.Waterway {
	var list []impl.Waterway
	for _, train := range []impl.Train{{}, {Up: true, Rows: rows{}}, {Rows: rows{nil}}, {Rows: rows{row(1), {}}}, up(row(1, 1)), down(row(1, 2, 3, 4, 5, 6, 7)), down(row(10000))} {
		list = append(list,
			plainWith(func(x *impl.Waterway) { x.Movers[1][0].Train = train }),
			plainWith(func(x *impl.Waterway) { x.Movers[0][1].Train = train }),
			plainWith(func(x *impl.Waterway) { x.Works[0].Calls[1].Train = train }),
			plainWith(func(x *impl.Waterway) { x.Works[1].Lock.Inside[0] = train }),
			plainWith(func(x *impl.Waterway) { x.Arrived[0] = train }),
			plainWith(func(x *impl.Waterway) { x.Arrived[1] = train }),
			plainWith(func(x *impl.Waterway) { x.Passings[1].Train = train }),
		)
	}
	return list
}

// validWaterways are as odd as valid ones can be.
func validWaterways() []impl.Waterway {
	return []impl.Waterway{
		plainWaterway(),
		// None of these has a true ledger.
		plainWith(func(x *impl.Waterway) { x.Start, x.In, x.Out = 0, 0, 0 }),
		plainWith(func(x *impl.Waterway) { x.Start, x.In, x.Out = impl.MaxAmount, impl.MaxAmount, impl.MaxAmount }),
		plainWith(func(x *impl.Waterway) { x.Entered = nil }),
		plainWith(func(x *impl.Waterway) { x.Entered = repeated(3, 30) }),
		plainWith(func(x *impl.Waterway) { x.Book = nil }),
		plainWith(func(x *impl.Waterway) { x.Book, x.Passings = bookOf(3), nil }),
		plainWith(func(x *impl.Waterway) { x.Arrived = nil }),
		plainWith(func(x *impl.Waterway) { x.Arrived = slices.Repeat(x.Arrived[:1], 9) }),
		plainWith(func(x *impl.Waterway) { x.Time = impl.MaxTime }),
		plainWith(func(x *impl.Waterway) { x.Passings[0].Time = impl.MaxTime }),
		plainWith(func(x *impl.Waterway) { x.Reaches[0].Volume = impl.MaxAmount - 706 }),
		plainWith(func(x *impl.Waterway) { x.Works[0].Lock.Water, x.Works[1].Lock.Water = impl.MaxAmount, impl.MaxAmount }),
		plainWith(func(x *impl.Waterway) { x.Works[0].Lock.Gate, x.Works[1].Lock.Gate = impl.GateAbove, impl.GateBelow }),
		sizedWaterway(2, 2, 2, 1),
		sizedWaterway(6, 6, 6, 5),
	}
}

func TestWaterwayOk(t *testing.T) {
	for _, x := range validWaterways() {
		if !impl.WaterwayOk(x) || !naiveOk(x) {
			t.Errorf("%s is not a waterway", briefly(x))
		}
	}
	for _, x := range invalidWaterways() {
		if impl.WaterwayOk(x) || naiveOk(x) {
			t.Errorf("%s is a waterway", briefly(x))
		}
	}
}

// TestPartsOfWaterways puts all that is valid or not valid by itself into a waterway.
func TestPartsOfWaterways(t *testing.T) {
	check := func(want bool, change func(x *impl.Waterway)) {
		if x := plainWith(change); impl.WaterwayOk(x) != want {
			t.Errorf("WaterwayOk is %v for %s", !want, briefly(x))
		}
	}
	for _, f := range validTariffs() {
		check(true, func(x *impl.Waterway) { x.Tariff = f })
	}
	for _, f := range invalidTariffs() {
		check(false, func(x *impl.Waterway) { x.Tariff = f })
	}
	for _, list := range givenBooks() {
		check(impl.BookOk(list), func(x *impl.Waterway) { x.Book = list })
	}
	for _, w := range validWays() {
		check(true, func(x *impl.Waterway) { x.Ways[1], x.Movers[1] = w, nil })
	}
	for _, w := range invalidWays() {
		check(false, func(x *impl.Waterway) { x.Ways[1], x.Movers[1] = w, nil })
	}
	for _, train := range givenTrains() {
		ok := impl.TrainOk(train)
		check(ok, func(x *impl.Waterway) { x.Arrived = append(x.Arrived, train) })
		check(ok, func(x *impl.Waterway) { x.Passings = append(x.Passings, impl.Passing{Train: train}) })
		check(ok, func(x *impl.Waterway) { x.Movers[2] = append(x.Movers[2], impl.Mover{Train: train}) })
	}
	for _, r := range slices.Concat(validReaches(), invalidReaches()) {
		list := []impl.Reach{lake(5), r}
		check(impl.RiverOk(list), func(x *impl.Waterway) {
			*x = sizedWaterway(2, 2, 2, 1)
			x.Reaches = list
		})
	}
}
