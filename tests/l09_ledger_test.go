package tests

import (
	"math"
	"math/rand"
	"slices"
	"sync"
	"testing"

	"loop.example/g03317/impl"
)

func TestPlacesOf(t *testing.T) {
	x := plainWith(func(x *impl.Waterway) { x.Works[0].Lock.Inside = []impl.Train{up(row(16)), down(row(15))} })
	if got, want := impl.PlacesOf(x), []int{1, 2, 3, 4, 5, 6, 7, 8, 16, 15, 9, 10, 11, 12, 13, 14}; !slices.Equal(got, want) {
		t.Errorf("PlacesOf = %v, not %v", got, want)
	}
	if got := impl.PlacesOf(begun()); len(got) != 0 {
		t.Errorf("PlacesOf a new waterway = %v", got)
	}
}

// oddWaterways are not valid, but have places and a ledger all the same.
func oddWaterways() []impl.Waterway {
	list := []impl.Waterway{
		{Movers: [][]impl.Mover{nil, {goes(up(row(1)), -5), goes(impl.Train{}, 3)}, {}, {goes(down(row(2)), math.MaxInt)}}},
		{Works: []impl.Work{{Calls: []impl.Call{{Train: up(row(3)), Since: -1}, {}}, Lock: impl.Lock{Inside: numbered(9)}}, {}}},
		{Arrived: []impl.Train{up(row(1, 2)), {}, down(row(1)), {Rows: rows{nil}}}, Entered: []int{1, 2, 1}},
		{Arrived: singles(1, 2, 3), Entered: []int{3, 1, 2}},
		{Arrived: singles(1, 2, 3), Entered: []int{3, 1, 3}},
		{Arrived: singles(1, 2, 3), Entered: []int{3, 1, 4}},
		{Arrived: singles(1, 2, 2), Entered: []int{2, 1, 1}},
		{Arrived: singles(1, 2, 2), Entered: []int{1, 1, 1}},
		{Arrived: singles(1, 2), Entered: []int{2, 1, 1}},
		{Arrived: singles(1, 2), Entered: []int{1}},
		{Arrived: singles(1, 2), Entered: []int{0, -1}},
		{Arrived: []impl.Train{up(row(0)), up(row(10000))}, Entered: []int{0, 10000}},
		{Arrived: []impl.Train{up(row(0))}},
		{Entered: []int{math.MinInt, math.MaxInt}},
		{Passings: []impl.Passing{{Time: -1, Work: -1, Train: up(row(1))}}, Entered: []int{1}},
		{Passings: []impl.Passing{{Time: -1, Work: -1, Train: up(row(1))}}, Entered: []int{2}},
		{Passings: []impl.Passing{{Time: math.MinInt, Work: math.MaxInt, Train: up(row(1))}, {}}, Entered: []int{1}, Tariff: plainTariff()},
		{Passings: []impl.Passing{{Time: 5, Work: 77, Train: up(row(1))}}, Entered: []int{1}, Tariff: plainTariff(), Book: naiveEntries(plainTariff(), up(row(1)), 5)},
		{Book: book{{}}},
		{Book: bookOf(3), Tariff: plainTariff()},
	}
	return append(list, invalidWaterways()...)
}

func TestLedgersOfOddWaterways(t *testing.T) {
	kept, once, tolls := 0, 0, 0
	for _, x := range slices.Concat(oddWaterways(), validWaterways()) {
		if got, want := impl.PlacesOf(x), naivePlaces(x); !slices.Equal(got, want) {
			t.Errorf("PlacesOf(%s) = %v, not %v", briefly(x), got, want)
		}
		if got, want := impl.BoatsOnce(x), naiveOnce(x); got != want {
			t.Errorf("BoatsOnce(%s) = %v", briefly(x), got)
		}
		if got, want := impl.TollsTrue(x), naiveTolls(x); got != want {
			t.Errorf("TollsTrue(%s) = %v", briefly(x), got)
		}
		if got, want := impl.WaterKept(x), naiveOk(x) && naiveWater(x)+x.Out == x.Start+x.In; got != want {
			t.Errorf("WaterKept(%s) = %v", briefly(x), got)
		}
		if got, want := impl.LedgerOk(x), naiveLedger(x); got != want {
			t.Errorf("LedgerOk(%s) = %v", briefly(x), got)
		}
		kept += isTrue(impl.WaterKept(x))
		once += isTrue(impl.BoatsOnce(x))
		tolls += isTrue(impl.TollsTrue(x))
	}
	if kept < 3 || once < 5 || tolls < 5 {
		t.Errorf("%d times water is kept, %d times boats are there once, %d times tolls are true", kept, once, tolls)
	}
}

func isTrue(b bool) int {
	if b {
		return 1
	}
	return 0
}

func TestWaterKept(t *testing.T) {
	for name, k := range map[string]struct {
		kept   bool
		change func(x *impl.Waterway)
	}{
		"plain":             {true, func(x *impl.Waterway) {}},
		"more in a reach":   {false, func(x *impl.Waterway) { x.Reaches[1].Volume++ }},
		"less in a reach":   {false, func(x *impl.Waterway) { x.Reaches[1].Volume-- }},
		"more on its way":   {false, func(x *impl.Waterway) { x.Reaches[2].Pipe[1]++ }},
		"more in a lock":    {false, func(x *impl.Waterway) { x.Works[0].Lock.Water++ }},
		"less in a lock":    {false, func(x *impl.Waterway) { x.Works[1].Lock.Water-- }},
		"more at the start": {false, func(x *impl.Waterway) { x.Start++ }},
		"more has come":     {false, func(x *impl.Waterway) { x.In++ }},
		"more has left":     {false, func(x *impl.Waterway) { x.Out++ }},
		"moved to a lock":   {true, func(x *impl.Waterway) { x.Works[1].Lock.Water++; x.Reaches[0].Volume-- }},
		"moved to a pipe":   {true, func(x *impl.Waterway) { x.Reaches[2].Pipe[0] += 9; x.Reaches[0].Volume -= 9 }},
		"come":              {true, func(x *impl.Waterway) { x.In += 9; x.Reaches[0].Volume += 9 }},
		"left":              {true, func(x *impl.Waterway) { x.Out += 9; x.Reaches[0].Volume -= 9 }},
		"come and left":     {true, func(x *impl.Waterway) { x.Out += 9; x.In += 9 }},
		"from the start":    {true, func(x *impl.Waterway) { x.Start += 9; x.In -= 9 }},
		"all": {true, func(x *impl.Waterway) {
			x.Reaches[0].Volume, x.Start, x.In, x.Out = impl.MaxAmount-706-60, impl.MaxAmount, 5, 5
		}},
		"all, also in locks": {true, func(x *impl.Waterway) {
			x.Works[0].Lock.Water, x.Start, x.In, x.Out = impl.MaxAmount, impl.MaxAmount, 1486, 0
		}},
		"other boats, no book": {true, func(x *impl.Waterway) { x.Entered, x.Book = nil, nil }},
		"not a waterway":       {false, func(x *impl.Waterway) { x.Passings[0].Work = 2 }},
	} {
		if x := plainWith(k.change); impl.WaterKept(x) != k.kept {
			t.Errorf("%s: WaterKept is %v", name, !k.kept)
		}
	}
}

func TestBoatsOnce(t *testing.T) {
	for name, k := range map[string]struct {
		once   bool
		change func(x *impl.Waterway)
	}{
		"plain":            {true, func(x *impl.Waterway) {}},
		"another order":    {true, func(x *impl.Waterway) { slices.Sort(x.Entered) }},
		"one not entered":  {false, func(x *impl.Waterway) { x.Entered = x.Entered[1:] }},
		"one lost":         {false, func(x *impl.Waterway) { x.Movers[1] = nil }},
		"one twice":        {false, func(x *impl.Waterway) { x.Movers[1][0].Train = down(row(5)) }},
		"one more":         {false, func(x *impl.Waterway) { x.Arrived = append(x.Arrived, up(row(5))) }},
		"another one":      {false, func(x *impl.Waterway) { x.Works[1].Lock.Inside[0] = up(row(15)) }},
		"another entered":  {false, func(x *impl.Waterway) { x.Entered[3] = 15 }},
		"from reach to it": {true, func(x *impl.Waterway) { x.Movers[0], x.Movers[2] = x.Movers[2], x.Movers[0] }},
		"called instead": {true, func(x *impl.Waterway) {
			x.Works[0].Calls = append(x.Works[0].Calls, calling(x.Movers[1][0].Train))
			x.Movers[1] = nil
		}},
		"arrived instead": {true, func(x *impl.Waterway) {
			x.Arrived = append(x.Arrived, x.Works[1].Lock.Inside...)
			x.Works[1].Lock.Inside = nil
		}},
		"not passed":     {true, func(x *impl.Waterway) { x.Passings = nil }},
		"not a waterway": {true, func(x *impl.Waterway) { x.Time = -1 }},
		// Each element of Entered is in one place then, too, and there are as many.
		"entered twice": {true, func(x *impl.Waterway) { x.Entered[3] = x.Entered[4] }},
	} {
		if x := plainWith(k.change); impl.BoatsOnce(x) != k.once || naiveOnce(x) != k.once {
			t.Errorf("%s: BoatsOnce is %v", name, !k.once)
		}
	}
}

func TestTollsTrue(t *testing.T) {
	for name, k := range map[string]struct {
		holds  bool
		change func(x *impl.Waterway)
	}{
		"plain":              {true, func(x *impl.Waterway) {}},
		"nothing":            {true, func(x *impl.Waterway) { x.Book, x.Passings = nil, nil }},
		"no book":            {false, func(x *impl.Waterway) { x.Book = nil }},
		"no passings":        {false, func(x *impl.Waterway) { x.Passings = nil }},
		"one entry less":     {false, func(x *impl.Waterway) { x.Book = x.Book[:3] }},
		"one entry more":     {false, func(x *impl.Waterway) { x.Book = append(x.Book, plainEntry()) }},
		"another order":      {false, func(x *impl.Waterway) { slices.Reverse(x.Passings) }},
		"another order, too": {false, func(x *impl.Waterway) { slices.Reverse(x.Book) }},
		"another amount":     {false, func(x *impl.Waterway) { x.Book[2].Amount++ }},
		"another owner":      {false, func(x *impl.Waterway) { x.Book[2].To = 5 }},
		"another payer":      {false, func(x *impl.Waterway) { x.Book[2].From = 5 }},
		"another time":       {false, func(x *impl.Waterway) { x.Book[2].Time++ }},
		"another reason":     {false, func(x *impl.Waterway) { x.Book[2].Why++ }},
		"another tariff":     {false, func(x *impl.Waterway) { x.Tariff.Base++ }},
		"a later passing":    {false, func(x *impl.Waterway) { x.Passings[1].Time++ }},
		"another work":       {true, func(x *impl.Waterway) { x.Passings[1].Work = 55 }},
		"another train":      {false, func(x *impl.Waterway) { x.Passings[1].Train = up(row(10)) }},
		"another Id inside":  {true, func(x *impl.Waterway) { x.Passings[1].Train.Up = false }},
		"unknown": {false, func(x *impl.Waterway) {
			x.Entered = slices.DeleteFunc(x.Entered, func(id int) bool { return id == 12 })
		}},
		"all unknown":      {false, func(x *impl.Waterway) { x.Entered = nil }},
		"others unknown":   {true, func(x *impl.Waterway) { x.Entered = []int{11, 12} }},
		"not a waterway":   {true, func(x *impl.Waterway) { x.Time = -1 }},
		"an invalid train": {true, func(x *impl.Waterway) { x.Passings = append(x.Passings, impl.Passing{Train: up(row(55), nil)}) }},
		"an invalid time":  {true, func(x *impl.Waterway) { x.Passings = append(x.Passings, impl.Passing{Time: -1, Train: up(row(5))}) }},
		"a late time": {true, func(x *impl.Waterway) {
			x.Passings = append(x.Passings, impl.Passing{Time: impl.MaxTime + 1, Train: up(row(5))})
		}},
		"unknown, late": {false, func(x *impl.Waterway) {
			x.Passings = append(x.Passings, impl.Passing{Time: impl.MaxTime + 1, Train: up(row(55))})
		}},
	} {
		if x := plainWith(k.change); impl.TollsTrue(x) != k.holds || naiveTolls(x) != k.holds {
			t.Errorf("%s: TollsTrue is %v", name, !k.holds)
		}
	}
}

// TestSecondIdsOfPassings has a boat that is not the first one of its train.
func TestSecondIdsOfPassings(t *testing.T) {
	pair := down(row(12, 40), row(41))
	x := plainWith(func(x *impl.Waterway) {
		x.Passings = []impl.Passing{{Time: 4, Train: pair}}
		x.Book = naiveEntries(x.Tariff, pair, 4)
	})
	for _, k := range []struct {
		ids   []int
		holds bool
	}{{nil, false}, {[]int{40}, false}, {[]int{41}, false}, {[]int{41, 40}, true}, {[]int{40, 40}, false}} {
		if got := impl.TollsTrue(with(x, func(x *impl.Waterway) { x.Entered = append(x.Entered, k.ids...) })); got != k.holds {
			t.Errorf("with %v, TollsTrue is %v", k.ids, got)
		}
	}
}

// TestTollsOfAFullBook has passings for which the book has no room any more.
func TestTollsOfAFullBook(t *testing.T) {
	x := plainWith(func(x *impl.Waterway) { x.Book, x.Passings = nil, nil })
	x.Tariff = impl.Tariff{Base: 3, PerClass: []int{0, 0, 0}, Weights: []int{1, 1, 1}}
	for i := range 700 {
		x.Passings = append(x.Passings, impl.Passing{Time: i, Train: up(row(1 + i%14))})
		if i < 666 {
			x.Book = append(x.Book, naiveEntries(x.Tariff, up(row(1+i%14)), i)...)
		}
		if i == 600 || i > 660 {
			if !impl.TollsTrue(x) {
				t.Errorf("after %d passings TollsTrue is false", i+1)
			}
		}
	}
	if len(x.Book) != 1998 || impl.TollsTrue(with(x, func(x *impl.Waterway) { x.Book = x.Book[:1995] })) {
		t.Errorf("a book of %d entries", len(x.Book))
	}
	// One entry less for each toll has room then.
	x.Passings = append(x.Passings, impl.Passing{Time: 800, Train: ranked(1, impl.ClassPassenger, true)})
	x.Tariff.Base, x.Tariff.PerClass = 1, []int{0, 2, 2}
	x.Book = append(x.Book, impl.Entry{From: 0, To: 1, Amount: 1, Time: 800, Why: 1})
	if !impl.TollsTrue(x) || impl.TollsTrue(with(x, func(x *impl.Waterway) { x.Book = x.Book[:1998] })) {
		t.Errorf("an entry behind those for which there is no room is not posted")
	}
}

func TestLedgerOk(t *testing.T) {
	for name, k := range map[string]struct {
		holds  bool
		change func(x *impl.Waterway)
	}{
		"plain":          {true, func(x *impl.Waterway) {}},
		"water lost":     {false, func(x *impl.Waterway) { x.Reaches[0].Volume-- }},
		"a boat lost":    {false, func(x *impl.Waterway) { x.Movers[1] = nil }},
		"a toll lost":    {false, func(x *impl.Waterway) { x.Book = x.Book[1:] }},
		"not a waterway": {false, func(x *impl.Waterway) { x.Passings[0].Work = 2 }},
		"too late":       {false, func(x *impl.Waterway) { x.Time = impl.MaxTime + 1 }},
		"all lost":       {false, func(x *impl.Waterway) { x.Reaches[0].Volume--; x.Movers[1] = nil; x.Book = nil }},
	} {
		x := plainWith(k.change)
		for range 50 {
			if impl.LedgerOk(x) != k.holds {
				t.Errorf("%s: LedgerOk is %v", name, !k.holds)
			}
		}
	}
	if impl.LedgerOk(impl.Waterway{}) || !impl.LedgerOk(begun()) {
		t.Errorf("LedgerOk holds for nothing, or not for a new waterway")
	}
}

// TestManyLedgers spoils one number or boat of a true ledger each time.
func TestManyLedgers(t *testing.T) {
	rnd := rand.New(rand.NewSource(96))
	results := map[bool]int{}
	for range 600 {
		x := plainWaterway()
		for range rnd.Intn(3) {
			n := rnd.Intn(3) - 1
			[]func(){
				func() { x.Reaches[rnd.Intn(3)].Volume += n },
				func() { x.Works[rnd.Intn(2)].Lock.Water += n },
				func() { x.Start += n },
				func() { x.In += n },
				func() { x.Out += n },
				func() { x.Entered[rnd.Intn(14)] += n },
				func() { x.Arrived[0].Rows[0][0].Id += n },
				func() { x.Movers[0][1].Train.Rows[0][1].Id += n },
				func() { x.Passings[rnd.Intn(2)].Time += n },
				func() { x.Book[rnd.Intn(4)].Amount += n },
				func() { x.Tariff.PerClass[rnd.Intn(3)] += n },
			}[rnd.Intn(11)]()
		}
		got := impl.LedgerOk(x)
		if want := naiveLedger(x); got != want || impl.BoatsOnce(x) != naiveOnce(x) || impl.TollsTrue(x) != naiveTolls(x) {
			t.Fatalf("LedgerOk = %v: %s", got, differing(x, plainWaterway()))
		}
		results[got]++
	}
	if results[true] < 100 || results[false] < 100 {
		t.Errorf("the results are %v", results)
	}
}

// TestVeryLongLedgers has lists of a million, none of which is valid.
func TestVeryLongLedgers(t *testing.T) {
	const count = 1000000
	x := impl.Waterway{Tariff: plainTariff(), Entered: make([]int, count), Book: bookOf(count)}
	for i := range count {
		x.Entered[i] = i
	}
	x.Arrived = slices.Repeat([]impl.Train{up(row(7))}, count)
	x.Passings = slices.Repeat([]impl.Passing{{Train: up(row(7))}}, count/4)
	x.Movers = make([][]impl.Mover, count)
	x.Works = make([]impl.Work, count/4)
	if impl.WaterwayOk(x) || impl.BoatsOnce(x) || impl.TollsTrue(x) || impl.LedgerOk(x) || len(impl.PlacesOf(x)) != count {
		t.Errorf("a very long ledger is true")
	}
	for i := range x.Arrived {
		x.Arrived[i] = impl.Train{Rows: rows{{}}}
	}
	x.Entered, x.Book = []int{7}, nil
	for range impl.MaxEntries / 2 {
		x.Book = append(x.Book, naiveEntries(x.Tariff, up(row(7)), 0)...)
	}
	x.Movers[count-1] = []impl.Mover{goes(up(row(7)), 0)}
	if !impl.BoatsOnce(x) || !impl.TollsTrue(x) || impl.LedgerOk(x) || !slices.Equal(impl.PlacesOf(x), []int{7}) {
		t.Errorf("a very long ledger has %d boats, and is not true", len(impl.PlacesOf(x)))
	}
}

// TestLedgersAtTheSameTime has many goroutines examine, run and change the same waterway.
func TestLedgersAtTheSameTime(t *testing.T) {
	x := plainWaterway()
	after := naiveRun(x, 60, 20)
	var group sync.WaitGroup
	for i := range 24 {
		group.Go(func() {
			for range 20 {
				if i%3 == 0 && !impl.LedgerOk(x) {
					t.Errorf("the ledger is not true")
				}
				if i%3 == 1 && !alike(impl.RunWaterway(x, 60, 20), after) {
					t.Errorf("a run ends in another way")
				}
				if y, ok := impl.EnterTrain(x, up(row(20+i))); !ok || len(y.Entered) != 15 {
					t.Errorf("a train does not come")
				}
			}
		})
	}
	group.Wait()
	if !alike(x, plainWaterway()) {
		t.Errorf("it is changed: %s", differing(x, plainWaterway()))
	}
}
