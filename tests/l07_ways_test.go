package tests

import (
	"math"
	"math/rand"
	"slices"
	"testing"

	"loop.example/g03317/impl"
)

// plainWay has no number at a limit.
func plainWay() impl.Way {
	return impl.Way{Length: 40, Bed: 30}
}

func validWays() []impl.Way {
	var list []impl.Way
	for _, length := range []int{1, 2, 9999, 10000} {
		list = append(list, impl.Way{Length: length, Bed: 30})
	}
	for _, bed := range []int{0, 1, 99999, 100000} {
		list = append(list, impl.Way{Length: 40, Bed: bed})
	}
	return append(list, plainWay(), impl.Way{Length: 1}, impl.Way{Length: impl.MaxWay, Bed: impl.MaxLevel})
}

func invalidWays() []impl.Way {
	// The last two are 1 and 2, if they are taken modulo 2^32.
	far := []int{math.MinInt, math.MinInt + 1, -1, math.MaxInt - 1, math.MaxInt, 1<<32 + 1, 1<<32 + 2}
	list := []impl.Way{{}, {Bed: 30}, {Length: 10001, Bed: 30}, {Length: 40, Bed: 100001}, {Length: 0, Bed: -1}}
	for _, n := range far {
		list = append(list, impl.Way{Length: n, Bed: 30}, impl.Way{Length: 40, Bed: n}, impl.Way{Length: n, Bed: n})
	}
	return list
}

func TestLimitsOfChapter7(t *testing.T) {
	if impl.MaxWay != 10000 {
		t.Errorf("the limit is %d", impl.MaxWay)
	}
}

func TestWayOk(t *testing.T) {
	for _, w := range validWays() {
		if !impl.WayOk(w) {
			t.Errorf("WayOk(%+v) is false", w)
		}
	}
	for _, w := range invalidWays() {
		if impl.WayOk(w) {
			t.Errorf("WayOk(%+v) is true", w)
		}
	}
}

func TestDepthIn(t *testing.T) {
	table := points{{X: 35, Y: 5}, {X: 45, Y: 105}, {X: 60, Y: 105}}
	known := []struct {
		bed   int
		r     impl.Reach
		depth int
	}{
		{30, at(42), 12}, {0, at(42), 42}, {41, at(42), 1}, {42, at(42), 0}, {43, at(42), 0}, {100000, at(42), 0},
		{0, at(0), 0}, {1, at(0), 0}, {100000, at(0), 0}, {100000, at(100000), 0}, {100000, at(100001), 1}, {99999, at(100000), 1},
		{0, at(impl.MaxAmount), impl.MaxAmount}, {1, at(impl.MaxAmount), impl.MaxAmount - 1}, {100000, at(impl.MaxAmount), impl.MaxAmount - 100000},
		// Without any water the level is that of the first point, and with very much that of the last one.
		{30, impl.Reach{Table: table}, 5}, {36, impl.Reach{Table: table}, 0},
		{30, impl.Reach{Table: table, Volume: 6}, 6}, {30, impl.Reach{Table: table, Volume: 15}, 6}, {30, impl.Reach{Table: table, Volume: 16}, 7},
		{30, impl.Reach{Table: table, Volume: 105}, 15}, {30, impl.Reach{Table: table, Volume: 106}, 30}, {30, impl.Reach{Table: table, Volume: 1000}, 30},
		// What is on its way makes nothing deeper.
		{30, impl.Reach{Table: table, Volume: 15, Pipe: []int{90, 90}}, 6},
	}
	for _, k := range known {
		for _, length := range []int{1, 40, impl.MaxWay} {
			if depth := impl.DepthIn(impl.Way{Length: length, Bed: k.bed}, k.r); depth != k.depth {
				t.Errorf("DepthIn above %d of %v = %d", k.bed, k.r, depth)
			}
		}
	}
}

func TestDepthInManyReaches(t *testing.T) {
	rnd := rand.New(rand.NewSource(71))
	for range 2000 {
		r := impl.Reach{Table: randomTable(rnd), Volume: rnd.Intn(60), Pipe: repeated(rnd.Intn(5), rnd.Intn(4))}
		w := impl.Way{Length: 1 + rnd.Intn(100), Bed: rnd.Intn(40)}
		level := r.Table[0].X
		for level < r.Table[len(r.Table)-1].X && naiveValue(r.Table, level) < r.Volume {
			level++
		}
		if depth := impl.DepthIn(w, r); depth != max(0, level-w.Bed) {
			t.Fatalf("DepthIn(%+v, %v) = %d, and the level is %d", w, r, depth, level)
		}
	}
}

func TestNoDepthIsInvalid(t *testing.T) {
	for _, r := range slices.Concat([]impl.Reach{at(200), at(impl.MaxAmount)}, validReaches(), invalidReaches()) {
		for _, w := range invalidWays() {
			if depth := impl.DepthIn(w, r); depth != 0 {
				t.Errorf("DepthIn(%+v, %.120v) = %d", w, r, depth)
			}
		}
	}
	for _, r := range invalidReaches() {
		for _, w := range validWays() {
			if depth := impl.DepthIn(w, r); depth != 0 {
				t.Errorf("DepthIn(%+v, %.120v) = %d", w, r, depth)
			}
		}
	}
}

func sameMover(a impl.Mover, b impl.Mover) bool {
	return a.Place == b.Place && sameTrain(a.Train, b.Train)
}

// movers returns a mover with each of the trains at each of the places.
func movers(trains []impl.Train, places ...int) []impl.Mover {
	var list []impl.Mover
	for _, train := range trains {
		for _, place := range places {
			list = append(list, impl.Mover{Train: train, Place: place})
		}
	}
	return list
}

// badPlaces are not on a way; the last two are 0 and 1, if they are taken modulo 2^32.
func badPlaces(w impl.Way) []int {
	return []int{math.MinInt, math.MinInt + 1, -2, -1, w.Length + 1, w.Length + 2, math.MaxInt - 1, math.MaxInt, 1 << 32, 1<<32 + 1}
}

func TestMoverOk(t *testing.T) {
	for _, w := range validWays() {
		for _, m := range movers(validTrains(), 0, 1, w.Length/2, w.Length-1, w.Length) {
			if !impl.MoverOk(m, w) {
				t.Errorf("MoverOk(%+v, %+v) is false", m, w)
			}
		}
		for _, m := range movers(validTrains(), badPlaces(w)...) {
			if impl.MoverOk(m, w) || impl.AtEnd(m, w) {
				t.Errorf("MoverOk(%+v, %+v) is true, or AtEnd", m, w)
			}
		}
		for _, m := range movers(invalidTrains(), 0, 1, w.Length) {
			if impl.MoverOk(m, w) || impl.AtEnd(m, w) {
				t.Errorf("MoverOk is true, or AtEnd, for %s at %d", brief(m.Train), m.Place)
			}
		}
	}
	for _, w := range invalidWays() {
		for _, m := range movers(slices.Concat(validTrains(), []impl.Train{{}}), 0, 1, -1, w.Length) {
			if impl.MoverOk(m, w) || impl.AtEnd(m, w) {
				t.Errorf("MoverOk(%+v, %+v) is true, or AtEnd", m, w)
			}
		}
	}
}

func TestAtEnd(t *testing.T) {
	for _, w := range validWays() {
		for _, m := range movers(validTrains(), 0, 1, 2, w.Length/2, w.Length-1, w.Length) {
			end := w.Length
			if m.Train.Up {
				end = 0
			}
			if impl.MoverOk(m, w) && impl.AtEnd(m, w) != (m.Place == end) {
				t.Errorf("AtEnd(%+v, %+v) = %v", m, w, impl.AtEnd(m, w))
			}
		}
	}
}
