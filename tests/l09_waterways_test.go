package tests

import (
	"math/rand"
	"reflect"

	"loop.example/g03317/impl"
)

// plainParts are the parts of a waterway without boats, with the levels 75, 50 and 20 and no number at a limit.
func plainParts() ([]impl.Reach, []impl.Way, []impl.Work) {
	reaches := []impl.Reach{lake(750), lake(500, 3), lake(200, 1, 2)}
	ways := []impl.Way{{Length: 40, Bed: 60}, {Length: 30, Bed: 35}, {Length: 20, Bed: 5}}
	upper := impl.Work{
		Lock:   impl.Lock{Length: 60, Width: 12, SillAbove: 60, SillBelow: 38, Base: 36, Area: 2, Rate: 50, Water: 30},
		Weir:   impl.Weir{Gates: 2, Open: 5, Step: 3, Crest: 70, Width: 4},
		Rule:   impl.Rule{Low: 60, High: 80, Flood: 90},
		Pauses: between(100, 110, 200, 205),
		Turn:   impl.Turn{Up: true, Count: 2},
	}
	lower := impl.Work{
		Lock:   impl.Lock{Length: 60, Width: 12, SillAbove: 36, SillBelow: 6, Base: 5, Area: 2, Rate: 50, Water: 30},
		Weir:   impl.Weir{Gates: 1, Open: 4, Step: 2, Crest: 45, Width: 3},
		Rule:   impl.Rule{Low: 40, High: 60, Flood: 80},
		Pauses: between(300, 320),
		Turn:   impl.Turn{Count: 1},
	}
	return reaches, ways, []impl.Work{upper, lower}
}

// plainWaterway has trains in all places, and a ledger that is true.
func plainWaterway() impl.Waterway {
	reaches, ways, works := plainParts()
	works[0].Calls = []impl.Call{{Train: up(row(7)), Since: 3, Booked: -1}, {Train: down(row(8)), Since: 4, Booked: 9}}
	works[1].Calls = []impl.Call{{Train: up(row(9, 10)), Since: 5, Booked: -1}}
	works[1].Lock.Inside = []impl.Train{up(row(11))}
	x := impl.Waterway{
		Time: 10, Reaches: reaches, Ways: ways, Works: works,
		Movers: [][]impl.Mover{
			{{Train: up(row(1)), Place: 20}, {Train: down(row(2, 3)), Place: 10}},
			{{Train: down(row(4)), Place: 5}},
			{{Train: up(row(5), row(6)), Place: 7}},
		},
		Arrived:  []impl.Train{down(row(12)), up(row(13), row(14))},
		Entered:  []int{5, 6, 12, 1, 2, 3, 4, 13, 14, 7, 8, 11, 9, 10},
		Tariff:   plainTariff(),
		Passings: []impl.Passing{{Time: 4, Work: 1, Train: down(row(12))}, {Time: 9, Work: 1, Train: up(row(11))}},
		// What there is is 1516.
		Start: 1500, In: 40, Out: 24,
	}
	for _, p := range x.Passings {
		x.Book = append(x.Book, naiveEntries(x.Tariff, p.Train, p.Time)...)
	}
	return x
}

// with returns a waterway that was changed.
func with(x impl.Waterway, change func(x *impl.Waterway)) impl.Waterway {
	changed := copied(x)
	change(&changed)
	return changed
}

// plainWith returns a plain waterway that was changed.
func plainWith(change func(x *impl.Waterway)) impl.Waterway {
	return with(plainWaterway(), change)
}

// copied returns the same value in memory of its own.
func copied[T any](v T) T {
	return copyOfValue(reflect.ValueOf(v)).Interface().(T)
}

func copyOfValue(v reflect.Value) reflect.Value {
	result := reflect.New(v.Type()).Elem()
	switch v.Kind() {
	case reflect.Struct:
		for i := range v.NumField() {
			result.Field(i).Set(copyOfValue(v.Field(i)))
		}
	case reflect.Slice:
		if !v.IsNil() {
			result.Set(reflect.MakeSlice(v.Type(), v.Len(), v.Len()))
		}
		for i := range v.Len() {
			result.Index(i).Set(copyOfValue(v.Index(i)))
		}
	default:
		result.Set(v)
	}
	return result
}

// alike has nil and empty slices as the same value.
func alike[T any](a T, b T) bool {
	return alikeValues(reflect.ValueOf(a), reflect.ValueOf(b))
}

func alikeValues(a reflect.Value, b reflect.Value) bool {
	switch a.Kind() {
	case reflect.Struct:
		for i := range a.NumField() {
			if !alikeValues(a.Field(i), b.Field(i)) {
				return false
			}
		}
		return true
	case reflect.Slice:
		if a.Len() != b.Len() {
			return false
		}
		for i := range a.Len() {
			if !alikeValues(a.Index(i), b.Index(i)) {
				return false
			}
		}
		return true
	default:
		return a.Equal(b)
	}
}

// differing names the fields in which two waterways are not alike.
func differing(a impl.Waterway, b impl.Waterway) string {
	s := ""
	for i := range reflect.TypeOf(a).NumField() {
		one, other := reflect.ValueOf(a).Field(i), reflect.ValueOf(b).Field(i)
		if !alikeValues(one, other) {
			s += reflect.TypeOf(a).Field(i).Name + " " + briefly(one.Interface()) + "\nand " + briefly(other.Interface()) + "; "
		}
	}
	return s
}

// barge returns a train of up to three boats that seldom is too long, wide or deep.
func barge(rnd *rand.Rand, first int) impl.Train {
	t := impl.Train{Up: rnd.Intn(2) == 0, Rows: rows{nil}}
	for i := range 1 + rnd.Intn(3) {
		last := len(t.Rows) - 1
		if i > 0 && rnd.Intn(2) == 0 {
			t.Rows = append(t.Rows, nil)
			last++
		}
		b := impl.Boat{Id: first + i, Length: 4 + rnd.Intn(20), Width: 2 + rnd.Intn(6), Draught: 1 + rnd.Intn(9), Speed: 1 + rnd.Intn(12), Class: rnd.Intn(3)}
		t.Rows[last] = append(t.Rows[last], b)
	}
	return t
}

// randomParts have levels that fall from reach to reach by about 30.
func randomParts(rnd *rand.Rand) ([]impl.Reach, []impl.Way, []impl.Work) {
	count := 2 + rnd.Intn(impl.MaxReaches-1)
	var reaches []impl.Reach
	var ways []impl.Way
	var works []impl.Work
	for k := range count {
		bed := 30 * (count - 1 - k)
		volume := []int{500, 5000, 100000}[rnd.Intn(3)]
		r, _ := impl.NewReach(points{{X: bed, Y: 0}, {X: bed + 50, Y: volume}}, bed+8+rnd.Intn(30), rnd.Intn(4))
		reaches = append(reaches, r)
		ways = append(ways, impl.Way{Length: 1 + rnd.Intn(30), Bed: bed})
		if k > 0 {
			works = append(works, randomWork(rnd, bed+30, bed))
		}
	}
	return reaches, ways, works
}

// randomWork lies between reaches with the beds above and below.
func randomWork(rnd *rand.Rand, above int, below int) impl.Work {
	area := 1 + rnd.Intn(9)
	w := impl.Work{
		Lock: impl.Lock{
			Length: 10 + rnd.Intn(80), Width: 6 + rnd.Intn(20), SillAbove: above + rnd.Intn(6), SillBelow: below + rnd.Intn(6),
			Base: below + rnd.Intn(4), Area: area, Rate: 1 + rnd.Intn(30*area), Water: rnd.Intn(60 * area), Gate: rnd.Intn(3),
		},
		Weir: impl.Weir{Gates: 1 + rnd.Intn(3), Step: 1 + rnd.Intn(9), Crest: above + 5 + rnd.Intn(40), Width: 1 + rnd.Intn(5)},
		Turn: impl.Turn{Up: rnd.Intn(2) == 0, Count: rnd.Intn(5)},
	}
	w.Weir.Open = rnd.Intn(10*w.Weir.Gates + 1)
	if rnd.Intn(3) == 0 {
		// So low that water leaves the waterway if this is the last work.
		w.Weir.Crest = below + rnd.Intn(30)
	}
	w.Rule.Low = above + rnd.Intn(20)
	w.Rule.High = w.Rule.Low + 1 + rnd.Intn(20)
	w.Rule.Flood = w.Rule.High + rnd.Intn(20)
	if rnd.Intn(2) == 0 {
		w.Pauses = inRow(rnd.Intn(impl.MaxPauses+1), 1+rnd.Intn(5), 1+rnd.Intn(20))
	}
	return w
}

// randomWaterway has trains in all places, with Ids that may be there twice, and any time, water and book.
func randomWaterway(rnd *rand.Rand) impl.Waterway {
	reaches, ways, works := randomParts(rnd)
	first := 0
	next := func() impl.Train {
		first += 3
		return barge(rnd, first)
	}
	x := impl.Waterway{
		Time: rnd.Intn(60), Reaches: reaches, Ways: ways, Works: works, Tariff: randomTariff(rnd),
		Book: randomBook(rnd, rnd.Intn(5)), Start: rnd.Intn(5000), In: rnd.Intn(5000), Out: rnd.Intn(5000),
	}
	for _, w := range x.Ways {
		var list []impl.Mover
		for range rnd.Intn(5) {
			list = append(list, impl.Mover{Train: next(), Place: rnd.Intn(w.Length + 1)})
		}
		x.Movers = append(x.Movers, list)
	}
	for k := range x.Works {
		for range rnd.Intn(12) {
			c := impl.Call{Train: next(), Since: rnd.Intn(70), Booked: rnd.Intn(70)}
			if rnd.Intn(3) > 0 {
				c.Booked = -1
			}
			x.Works[k].Calls = append(x.Works[k].Calls, c)
		}
		if rnd.Intn(2) == 0 {
			for range rnd.Intn(4) {
				x.Works[k].Lock.Inside = append(x.Works[k].Lock.Inside, next())
			}
		}
	}
	for range rnd.Intn(3) {
		x.Arrived = append(x.Arrived, next())
		x.Entered = append(x.Entered, 1+rnd.Intn(impl.MaxId))
		x.Passings = append(x.Passings, impl.Passing{Time: rnd.Intn(60), Work: rnd.Intn(len(x.Works)), Train: next()})
	}
	return x
}

// crowded returns a waterway of which some lists and amounts are at their limits or just below.
func crowded(rnd *rand.Rand, x impl.Waterway) impl.Waterway {
	near := func(limit int) int { return limit - rnd.Intn(3) }
	train := up(row(9000))
	fills := []func(){
		func() { x.Time = near(impl.MaxTime) },
		func() { x.Arrived = repeatedItem(train, near(500)) },
		func() { x.Passings = repeatedItem(impl.Passing{Train: train}, near(500)) },
		func() { x.Entered = repeated(9000, near(2000)) },
		func() { x.Book = bookOf(near(impl.MaxEntries)) },
		func() { x.Out = near(impl.MaxAmount) },
		func() { x.Start, x.In = near(impl.MaxAmount)/2, near(impl.MaxAmount)/2 },
		func() { x.Reaches[0].Volume += impl.MaxAmount - impl.RiverTotal(x.Reaches) - rnd.Intn(3) },
		func() { x.Works[0].Lock.Water = near(impl.MaxAmount) },
		func() { x.Works[0].Turn.Count = near(impl.MaxTime) },
		func() {
			k := rnd.Intn(len(x.Works))
			for len(x.Works[k].Calls) < near(impl.MaxCalls) {
				x.Works[k].Calls = append(x.Works[k].Calls, impl.Call{Train: barge(rnd, 8000+3*len(x.Works[k].Calls)), Booked: -1})
			}
		},
		func() {
			k := rnd.Intn(len(x.Ways))
			for len(x.Movers[k]) < near(impl.MaxCalls) {
				x.Movers[k] = append(x.Movers[k], impl.Mover{Train: barge(rnd, 7000+3*len(x.Movers[k])), Place: rnd.Intn(x.Ways[k].Length + 1)})
			}
		},
	}
	for range 1 + rnd.Intn(3) {
		fills[rnd.Intn(len(fills))]()
	}
	return x
}

// repeatedItem returns copies of an item.
func repeatedItem[T any](item T, count int) []T {
	var list []T
	for range count {
		list = append(list, copied(item))
	}
	return list
}
