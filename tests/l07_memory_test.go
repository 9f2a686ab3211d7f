package tests

import (
	"math"
	"slices"
	"testing"

	"loop.example/g03317/impl"
)

// givenMovers have trains and places of all kinds.
func givenMovers() []impl.Mover {
	places := []int{0, 1, 20, 40, 41, -1, math.MinInt, math.MaxInt}
	var list []impl.Mover
	for i, train := range givenTrains() {
		list = append(list, movers([]impl.Train{train}, places[i%len(places)], 20)...)
	}
	return list
}

func givenWays() []impl.Way {
	return []impl.Way{plainWay(), {Length: 40, Bed: impl.MaxLevel}, {Length: 40}, {}, {Length: 40, Bed: -1}}
}

// look calls all functions of chapter 7 that return no mover.
func look(list []impl.Mover, w impl.Way, r impl.Reach) {
	impl.WayOk(w)
	impl.DepthIn(w, r)
	for _, m := range list {
		impl.PaceOf(m.Train, 20)
		impl.PaceOf(m.Train, -1)
		impl.MoverOk(m, w)
		impl.AtEnd(m, w)
		impl.TimeTo(m, w, r)
	}
	impl.GroundedOf(list, w, r)
}

func TestMoversAreNotChanged(t *testing.T) {
	for _, w := range givenWays() {
		for _, from := range reachesAtLocks() {
			k := &kept{}
			var list []impl.Mover
			for _, m := range givenMovers() {
				m.Train = k.roomy(m.Train)
				k.trains = append(k.trains, m.Train)
				list = append(list, m)
			}
			k.trainsBefore = slices.Clone(k.trains)
			list = append(list, boundFor(true, 3), boundFor(false, 4))
			before := slices.Clone(list)
			r, table, pipe := roomy(from)
			tableBefore, pipeBefore := slices.Clone(table), slices.Clone(pipe)
			some := list[:len(list)-2]
			look(some, w, r)
			for _, m := range some {
				impl.MoveOne(m, w, r)
			}
			if !k.isUnchanged() || !slices.EqualFunc(list, before, isMover) {
				t.Errorf("on %+v in %v movers are changed", w, from)
			}
			if !slices.Equal(table, tableBefore) || !slices.Equal(pipe, pipeBefore) {
				t.Errorf("on %+v %v is changed", w, from)
			}
		}
	}
}

// isMover also tells movers of the same boats apart that lie elsewhere.
func isMover(a impl.Mover, b impl.Mover) bool {
	return a.Place == b.Place && a.Train.Up == b.Train.Up && blockOf(a.Train.Rows) == blockOf(b.Train.Rows)
}

// TestMoversShareNoMemory has trains that sail, that are there, that stand still and that are not valid.
func TestMoversShareNoMemory(t *testing.T) {
	for _, w := range givenWays() {
		for _, r := range reachesAtLocks() {
			for _, given := range givenMovers() {
				train, _, _ := roomyTrain(given.Train)
				m := impl.Mover{Train: train, Place: given.Place}
				checkBlocks(t, "MoveOne", outcome{train: impl.MoveOne(m, w, r).Train}, blocksOfTrain(train))
			}
		}
	}
}

// TestRowsOfOneArrayAreParted has a train whose rows lie in the same memory, one behind the other or twice.
func TestRowsOfOneArrayAreParted(t *testing.T) {
	whole := row(1, 2, 3, 4)
	for _, train := range []impl.Train{up(whole[:2], whole[2:3], whole[3:]), down(whole[:1], whole[1:]), up(whole, whole), down(whole[:0], whole)} {
		for _, place := range []int{0, 20, 40, 41} {
			for _, r := range reachesAtLocks() {
				m := impl.Mover{Train: train, Place: place}
				moved := impl.MoveOne(m, plainWay(), r)
				checkBlocks(t, "MoveOne", outcome{train: moved.Train}, blocksOfTrain(train))
				if !sameTrain(moved.Train, train) {
					t.Errorf("%v has become %v", train, moved.Train)
				}
			}
		}
	}
}

func TestMoversAreNewEachTime(t *testing.T) {
	m := boundFor(true, 20)
	for _, level := range []int{45, 40, 39} {
		first := impl.MoveOne(m, plainWay(), at(level))
		place := first.Place
		first.Train.Rows[0][0].Id = 77
		again := impl.MoveOne(m, plainWay(), at(level))
		if again.Place != place || !sameTrain(again.Train, boundFor(true, 0).Train) {
			t.Errorf("MoveOne at %d = %+v, and its place is %d before", level, again, place)
		}
	}
}

func TestGroundedAreNewEachTime(t *testing.T) {
	list := []impl.Mover{boundFor(true, 20), boundFor(false, 20)}
	first := impl.GroundedOf(list, plainWay(), at(0))
	for i := range first[:cap(first)] {
		first[:cap(first)][i] = -1
	}
	if ids := impl.GroundedOf(list, plainWay(), at(0)); !slices.Equal(ids, []int{5, 5}) {
		t.Errorf("GroundedOf = %v", ids)
	}
}

// TestNilAndEmptySlicesOfMovers compares what trains without rows and rows without boats are.
func TestNilAndEmptySlicesOfMovers(t *testing.T) {
	for _, pair := range [][2]impl.Train{
		{up(nil), up([]impl.Boat{})},
		{up(row(1), nil), up(row(1), []impl.Boat{})},
		{{Up: true}, {Up: true, Rows: rows{}}},
		{{}, {Rows: make(rows, 0, 5)}},
	} {
		for _, train := range pair {
			m := impl.Mover{Train: train, Place: 20}
			moved := impl.MoveOne(m, plainWay(), at(200))
			if !sameMover(moved, m) || impl.MoverOk(m, plainWay()) || impl.TimeTo(m, plainWay(), at(200)) != -1 {
				t.Errorf("%+v has become %+v", m, moved)
			}
		}
	}
	r := at(200)
	r.Pipe = []int{}
	if !sameMover(impl.MoveOne(boundFor(true, 20), plainWay(), r), boundFor(true, 13)) {
		t.Errorf("an empty pipe keeps a train from sailing")
	}
}
