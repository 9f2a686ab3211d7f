package tests

import (
	"math/rand"
	"slices"
	"testing"

	"loop.example/g03317/impl"
)

// boundFor returns a mover of one boat with the draught 10 and the speed 7.
func boundFor(bound bool, place int) impl.Mover {
	return impl.Mover{Train: single(bound, swift(5, 10, 7)), Place: place}
}

func TestMoveOne(t *testing.T) {
	w := plainWay() // its bed is at 30
	known := []struct {
		bound              bool
		level, place, next int
	}{
		// As fast as it can, and slowly.
		{true, 45, 20, 13}, {true, 44, 20, 16}, {true, 40, 20, 16}, {false, 45, 20, 27}, {false, 44, 20, 24}, {false, 40, 20, 24},
		{true, impl.MaxAmount, 20, 13}, {false, impl.MaxAmount, 20, 27},
		// Not at all.
		{true, 39, 20, 20}, {false, 39, 20, 20}, {true, 30, 20, 20}, {false, 29, 20, 20}, {true, 0, 20, 20}, {false, 0, 20, 20},
		// From one end on.
		{true, 45, 40, 33}, {true, 44, 40, 36}, {true, 39, 40, 40}, {false, 45, 0, 7}, {false, 44, 0, 4}, {false, 39, 0, 0},
		// Just to the end for which it is bound, and not beyond it.
		{true, 45, 8, 1}, {true, 45, 7, 0}, {true, 45, 6, 0}, {true, 45, 1, 0}, {true, 45, 0, 0}, {true, 44, 5, 1}, {true, 44, 4, 0}, {true, 44, 3, 0}, {true, 44, 0, 0},
		{false, 45, 32, 39}, {false, 45, 33, 40}, {false, 45, 34, 40}, {false, 45, 39, 40}, {false, 45, 40, 40},
		{false, 44, 35, 39}, {false, 44, 36, 40}, {false, 44, 37, 40}, {false, 44, 40, 40},
		{true, 39, 1, 1}, {true, 39, 0, 0}, {false, 39, 39, 39}, {false, 39, 40, 40},
	}
	for _, k := range known {
		m := boundFor(k.bound, k.place)
		if moved := impl.MoveOne(m, w, at(k.level)); !sameMover(moved, boundFor(k.bound, k.next)) {
			t.Errorf("MoveOne(%+v) at the level %d = %+v", m, k.level, moved)
		}
	}
}

func TestMoveOneAtTheLimits(t *testing.T) {
	fast := swift(1, 1, 50)
	for _, k := range []struct {
		m    impl.Mover
		w    impl.Way
		next int
	}{
		{impl.Mover{Train: single(true, fast), Place: 10000}, impl.Way{Length: impl.MaxWay, Bed: impl.MaxLevel}, 9950},
		{impl.Mover{Train: single(false, fast), Place: 9949}, impl.Way{Length: impl.MaxWay, Bed: impl.MaxLevel}, 9999},
		{impl.Mover{Train: single(false, fast), Place: 9950}, impl.Way{Length: impl.MaxWay, Bed: impl.MaxLevel}, 10000},
		{impl.Mover{Train: single(false, fast), Place: 9951}, impl.Way{Length: impl.MaxWay, Bed: impl.MaxLevel}, 10000},
		{impl.Mover{Train: single(true, fast), Place: 1}, impl.Way{Length: 1}, 0},
		{impl.Mover{Train: single(false, fast), Place: 0}, impl.Way{Length: 1}, 1},
		{impl.Mover{Train: single(true, swift(1, 1, 1)), Place: 1}, impl.Way{Length: 1}, 0},
	} {
		want := impl.Mover{Train: k.m.Train, Place: k.next}
		if moved := impl.MoveOne(k.m, k.w, at(impl.MaxLevel+2)); !sameMover(moved, want) {
			t.Errorf("MoveOne(%+v, %+v) = %+v", k.m, k.w, moved)
		}
	}
}

// naiveNext goes place by place.
func naiveNext(m impl.Mover, w impl.Way, r impl.Reach) int {
	n := naiveNumbers(m.Train)
	place := m.Place
	for range naivePace(n.draught, n.speed, impl.LevelOf(r)-w.Bed) {
		if m.Train.Up && place > 0 {
			place--
		} else if !m.Train.Up && place < w.Length {
			place++
		}
	}
	return place
}

func randomMover(rnd *rand.Rand, w impl.Way) impl.Mover {
	return impl.Mover{Train: randomTrain(rnd, rnd.Intn(1000)), Place: rnd.Intn(w.Length + 1)}
}

// randomWater has depths of all kinds for the draughts from 1 to 100.
func randomWater(rnd *rand.Rand) (impl.Way, impl.Reach) {
	w := impl.Way{Length: 1 + rnd.Intn(200), Bed: rnd.Intn(60)}
	return w, at(rnd.Intn(250))
}

func TestManyMoves(t *testing.T) {
	rnd := rand.New(rand.NewSource(73))
	moves := map[bool]int{}
	for range 5000 {
		w, r := randomWater(rnd)
		m := randomMover(rnd, w)
		want := impl.Mover{Train: m.Train, Place: naiveNext(m, w, r)}
		moved := impl.MoveOne(m, w, r)
		if !sameMover(moved, want) {
			t.Fatalf("MoveOne(%+v, %+v, %v) = %+v", m, w, r, moved)
		}
		moves[moved.Place != m.Place]++
	}
	if moves[true] < 1000 || moves[false] < 1000 {
		t.Errorf("of the trains, %v have moved", moves)
	}
}

func TestTimeTo(t *testing.T) {
	w := plainWay()
	known := []struct {
		bound              bool
		level, place, time int
	}{
		{true, 45, 40, 6}, {true, 45, 36, 6}, {true, 45, 35, 5}, {true, 45, 8, 2}, {true, 45, 7, 1}, {true, 45, 1, 1}, {true, 45, 0, 0},
		{true, 44, 40, 10}, {true, 44, 37, 10}, {true, 44, 36, 9}, {true, 44, 5, 2}, {true, 44, 4, 1}, {true, 44, 1, 1}, {true, 44, 0, 0}, {true, 40, 40, 10},
		{false, 45, 0, 6}, {false, 45, 4, 6}, {false, 45, 5, 5}, {false, 45, 32, 2}, {false, 45, 33, 1}, {false, 45, 39, 1}, {false, 45, 40, 0},
		{false, 44, 0, 10}, {false, 44, 3, 10}, {false, 44, 4, 9}, {false, 44, 35, 2}, {false, 44, 36, 1}, {false, 44, 39, 1}, {false, 44, 40, 0}, {false, 40, 0, 10},
		// A train that never arrives, wherever it is, but one that is there already.
		{true, 39, 40, -1}, {true, 39, 20, -1}, {true, 39, 1, -1}, {true, 39, 0, 0}, {true, 0, 1, -1}, {true, 0, 0, 0},
		{false, 39, 0, -1}, {false, 39, 20, -1}, {false, 39, 39, -1}, {false, 39, 40, 0}, {false, 0, 39, -1}, {false, 0, 40, 0},
		{true, impl.MaxAmount, 40, 6}, {false, impl.MaxAmount, 0, 6},
	}
	for _, k := range known {
		if time := impl.TimeTo(boundFor(k.bound, k.place), w, at(k.level)); time != k.time {
			t.Errorf("TimeTo of a train from %d (%v) at the level %d = %d", k.place, k.bound, k.level, time)
		}
	}
}

func TestTimesOnTheLongestWay(t *testing.T) {
	w := impl.Way{Length: impl.MaxWay, Bed: impl.MaxLevel}
	for _, k := range []struct{ draught, speed, depth, time int }{
		{100, 1, 99, -1}, {100, 1, 100, 10000}, {100, 1, 150, 10000}, {100, 2, 149, 10000}, {100, 2, 150, 5000}, {100, 3, 100, 5000}, {100, 3, 150, 3334},
		{100, 50, 149, 400}, {100, 50, 150, 200}, {1, 49, 1, 400}, {1, 49, 2, 205}, {1, 49, 0, -1}, {1, 49, impl.MaxAmount - impl.MaxLevel, 205},
	} {
		b := swift(9999, k.draught, k.speed)
		up, down := impl.Mover{Train: single(true, b), Place: impl.MaxWay}, impl.Mover{Train: single(false, b)}
		r := at(impl.MaxLevel + k.depth)
		if upstream, downstream := impl.TimeTo(up, w, r), impl.TimeTo(down, w, r); upstream != k.time || downstream != k.time {
			t.Errorf("TimeTo of %+v in the depth %d = %d upstream and %d downstream", b, k.depth, upstream, downstream)
		}
	}
}

// TestNobodyMovesWhereSomethingIsInvalid looks for movers that stay as they are and never arrive.
func TestNobodyMovesWhereSomethingIsInvalid(t *testing.T) {
	check := func(m impl.Mover, w impl.Way, r impl.Reach) {
		if moved := impl.MoveOne(m, w, r); !sameMover(moved, m) {
			t.Errorf("MoveOne of %s at %d on %+v in %.120v = %d", brief(m.Train), m.Place, w, r, moved.Place)
		}
		if time := impl.TimeTo(m, w, r); time != -1 {
			t.Errorf("TimeTo of %s at %d on %+v in %.120v = %d", brief(m.Train), m.Place, w, r, time)
		}
	}
	for _, r := range []impl.Reach{at(200), at(0), {}} {
		for _, w := range validWays() {
			for _, m := range slices.Concat(movers(validTrains(), badPlaces(w)...), movers(givenInvalidTrains(), 0, 1, w.Length)) {
				check(m, w, r)
			}
		}
		for _, w := range invalidWays() {
			for _, m := range movers(slices.Concat(validTrains(), givenInvalidTrains()), 0, 1, -1, w.Length) {
				check(m, w, r)
			}
		}
	}
	for _, r := range invalidReaches() {
		for _, m := range movers(append(validTrains(), impl.Train{Up: true}), 0, 20, 40, 41) {
			check(m, plainWay(), r)
		}
	}
}

// givenInvalidTrains leaves out the trains with very many rows or boats.
func givenInvalidTrains() []impl.Train {
	return slices.DeleteFunc(givenTrains(), impl.TrainOk)
}

// TestVeryLongTrainsStay has trains with more rows and boats than any other test.
func TestVeryLongTrainsStay(t *testing.T) {
	for _, train := range append(invalidTrains(), up(manyBoats(200000)), down(slices.Repeat(rows{row(1)}, 200000)...)) {
		m := impl.Mover{Train: train, Place: 20}
		if !sameMover(impl.MoveOne(m, plainWay(), at(200)), m) || impl.TimeTo(m, plainWay(), at(200)) != -1 {
			t.Errorf("%s does not stay at 20", brief(train))
		}
	}
}
